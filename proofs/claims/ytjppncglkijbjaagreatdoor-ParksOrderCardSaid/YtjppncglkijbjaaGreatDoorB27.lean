/- Texts of this seat, one behind the other. -/
import Derived.Test.YtjppncglkijbjaaGreatDoorB26
set_option linter.unusedVariables false
set_option linter.unusedSimpArgs false
set_option linter.unusedVariables false
set_option linter.unusedSimpArgs false
namespace Go.Proofs.YtjppncglkijbjaaGreatDoor.S15
open Go.Proofs.YtjppncglkijbjaaGreatDoor Go.Proofs.YtjppncglkijbjaaGreatDoor.S11 Go.Proofs.YtjppncglkijbjaaGreatDoor.S12 Go.Proofs.YtjppncglkijbjaaGreatDoor.S13 Go.Proofs.YtjppncglkijbjaaGreatDoor.S14
open Go.RowKit

section
variable {w0 w w' : World} {base WB : Nat} {M : Sd} {r : List Part} {j : Nat} {o : Bool} {t kw tw : Nat} {Z : Wb} {X : Wm}
theorem Wy.pushB (h : Wy w0 w base WB M r j o t kw tw Z X) (ob : Obj) : Wy w0 (w.alloc ob) base WB M (r ++ [blockP w.heap.size ob]) j o t kw tw Z X := by
  have hp := h.pg.ps.push (blockP w.heap.size ob) (below1 w ob) (heap_alloc_new w ob) (fun k e => Nat.le_of_eq (show k = w.heap.size from e).symm)
  rw [List.append_assoc] at hp
  refine ⟨⟨?_, h.pg.wB, h.pg.xm, h.pg.bl.alloc h.pg.size _⟩, by rw [List.length_append]; have := h.hj; simp; omega⟩
  rw [List.set_append_left _ _ h.hj]
  exact hp
theorem Wy.dropB {q : Part} (h : Wy w0 w base WB M (r ++ [q]) j o t kw tw Z X) (hj : j < r.length) : Wy w0 w base WB M r j o t kw tw Z X := by
  have hp := h.pg.ps
  rw [List.set_append_left _ _ hj, ← List.append_assoc] at hp
  exact ⟨⟨Parts.left hp, h.pg.wB, h.pg.xm, h.pg.bl⟩, hj⟩
theorem Wy.last {Q : Nat} {ob : Obj} (h : Wy w0 w base WB M (r ++ [blockP Q ob]) j o t kw tw Z X) (hj : j < r.length) : w.heap[Q]? = some ob := by
  have hp := h.pg.ps
  rw [List.set_append_left _ _ hj, ← List.append_assoc] at hp
  refine hp.ok (X.parts ++ r.set j (wayP o t kw tw Z)).length (blockP Q ob) ?_
  rw [List.getElem?_append_right (Nat.le_refl _), Nat.sub_self]; rfl
set_option maxRecDepth 100000 in
set_option maxHeartbeats 4000000 in
theorem look_t (h : Wy w0 w base WB M r j o t kw tw Z X) (hn : M.n ≤ 1000000000) {x : Nat} (hx : x = S2.look M.L (0)) : Calls Tryz.prog 290 #[Pw Z.TB, Pw WB] w fun e w' => e = .returned (.int .u64 (x : Int)) ∧ ∃ X', Wy w0 w' base WB (M.acc 1 0 x) r j o t kw tw Z X' := by
  obtain ⟨cb, hcb⟩ : ∃ cb, X.cB = cb := ⟨_, rfl⟩
  have HCB := Lib.hid hcb
  have hd := h.new (Below.refl _ _).drew
  have hld : ∀ W X', Wy w0 W base WB M r j o t kw tw Z X' → X'.cB = cb → Calls Tryz.prog 201 #[Pw cb, .int .u32 0] W fun e w' => e = .returned (.int .u64 (x : Int)) ∧ ∃ X5, Wy w0 w' base WB (M.acc 1 0 x) r j o t kw tw Z X5 ∧ X5.cB = cb := fun W X' hW hc => by
    subst hc
    rw [hx]
    skip
    exact hW.load (a := 0) (by omega) hn
  have hlx : x < 18446744073709551616 := by
    have := S2.look_lt h.pg.pw.cells.good (0)
    rw [show X.L = M.L from congrArg Sd.L h.pg.xm] at this
    rw [hx]; exact this
  have c1 : w.cell? ⟨WB, 0, none⟩ = some (Pw cb) := by rw [← hcb]; exact h.pg.c.1
  have c2 : w.cell? ⟨Z.TB, 0, none⟩ = some (.int .u32 0) := by exact h.tc.1
  have HLD := Lib.hid (hld _ X hd hcb)
  clear h hd hcb hld hn hx hlx
  go_enter Tryz.func290, Tryz.ntmps290
  go_upto_region 1 with (fail)
  go_still_tail 8, (by kernel_rfl)
  change wpList _ _ _ _ _ w.drew
  go_upto_region 2 with (go_at_call 201; refine HLD.out.mono ?_; rintro e w1 ⟨rfl, X1, h1, _⟩; have H1 := Lib.hid h1; clear h1)
  clear c1 c2 HLD
  have c3 : w1.cell? ⟨Z.TB, 1, none⟩ = some (.bool false) := H1.out.ks.2
  go_wp2_with fail
  go_ret
  exact ⟨rfl, X1, H1.out⟩
set_option maxRecDepth 100000 in
set_option maxHeartbeats 4000000 in
theorem look_k (h : Wy w0 w base WB M r j true t kw tw Z X) (hn : M.n ≤ 1000000000) {x : Nat} (hx : x = S2.look M.L (64 + t)) {y : Nat} (hy : y = x % 4294967296) (ht : t < 64) {ad : Nat} (had : ad = 64 + t) : Calls Tryz.prog 290 #[Pw Z.KB, Pw WB] w fun e w' => e = .returned (.int .u64 (y : Int)) ∧ ∃ X', Wy w0 w' base WB (M.acc 1 ad x) r j true t kw tw Z X' := by
  obtain ⟨cb, hcb⟩ : ∃ cb, X.cB = cb := ⟨_, rfl⟩
  have HCB := Lib.hid hcb
  have hd := h.new (Below.refl _ _).drew
  have hld : ∀ W X', Wy w0 W base WB M r j true t kw tw Z X' → X'.cB = cb → Calls Tryz.prog 201 #[Pw cb, .int .u32 (ad : Int)] W fun e w' => e = .returned (.int .u64 (x : Int)) ∧ ∃ X5, Wy w0 w' base WB (M.acc 1 ad x) r j true t kw tw Z X5 ∧ X5.cB = cb := fun W X' hW hc => by
    subst hc
    rw [hx]
    subst had
    exact hW.load (a := 64 + t) (by omega) hn
  have hlx : x < 18446744073709551616 := by
    have := S2.look_lt h.pg.pw.cells.good (64 + t)
    rw [show X.L = M.L from congrArg Sd.L h.pg.xm] at this
    rw [hx]; exact this
  have c1 : w.cell? ⟨WB, 0, none⟩ = some (Pw cb) := by rw [← hcb]; exact h.pg.c.1
  have c2 : w.cell? ⟨Z.KB, 0, none⟩ = some (.int .u32 (ad : Int)) := by rw [had]; exact h.kc.1
  have HLD := Lib.hid (hld _ X hd hcb)
  have e1 : IntKind.u32.wrap (x : Int) = (y : Int) := by rw [IntKind.wrap_u32]; omega
  have e2 : IntKind.u64.wrap (y : Int) = (y : Int) := by rw [IntKind.wrap_u64]; omega
  clear h hd hcb hld hn hx hlx hy ht had
  go_enter Tryz.func290, Tryz.ntmps290
  go_upto_region 1 with (fail)
  go_still_tail 8, (by kernel_rfl)
  change wpList _ _ _ _ _ w.drew
  go_upto_region 2 with (go_at_call 201; refine HLD.out.mono ?_; rintro e w1 ⟨rfl, X1, h1, _⟩; have H1 := Lib.hid h1; clear h1)
  clear c1 c2 HLD
  have c3 : w1.cell? ⟨Z.KB, 1, none⟩ = some (.bool true) := H1.out.ks.1
  go_wp2_with fail
  go_ret
  exact ⟨rfl, X1, H1.out⟩
set_option maxRecDepth 100000 in
set_option maxHeartbeats 4000000 in
theorem rstep_t (h : Wy w0 w base WB M r j o t kw tw Z X) (hn : M.n ≤ 1000000000) {x : Nat} (hx : x = S2.look M.L (0)) (s : Value) : Calls Tryz.prog 292 #[.agg #[Pw Z.TB], s, Pw WB] w fun e w' => e = .returned (.bool true) ∧ ∃ X', Wy w0 w' base WB (M.acc 1 0 x) r j o t kw x Z X' := by
  have hj := h.hj
  have hA := h.pushB (.cells #[Pw Z.TB] 255)
  obtain ⟨Q, hQ⟩ : ∃ Q, Q = w.heap.size := ⟨_, rfl⟩
  rw [← hQ] at hA
  obtain ⟨sd, hsd⟩ : ∃ sd, sd = tw := ⟨_, rfl⟩
  have HA := Lib.hid hA; have HJ := Lib.hid hj; have HQ := Lib.hid hQ; have HSD := Lib.hid hsd
  have HLD := Lib.hid (look_t (hA.new (Below.refl _ _).drew) hn hx)
  clear h hj hA hQ hx hn hsd
  go_enter Tryz.func292, Tryz.ntmps292
  go_upto_region 1 with (fail)
  rw [← HQ.out]
  generalize w.alloc (.cells #[Pw Z.TB] 255) = w1 at *
  refine wp_region_held_drew (S := fun w' => w'.cell? ⟨Q, 0, none⟩ = some (Pw Z.TB)) (by kernel_rfl) ?_ (fun hHeld => ?_)
  · exact cell_row ((HA.out.new (Below.refl _ _).drew).last HJ.out) 0
  refine wpAnyH_take (i := 0) (oi := ({ dst := some 7, op := Op.fieldAddr 255 (Operand.tmp 3) 0, type := 0, pos := "parts.go:96", after := #[], guard := none } : Oper)) (v := ?vrtm1) rfl (by kernel_rfl) (by kernel_rfl) (by kernel_rfl) (fun _ _ _ h => h) (Or.inl ⟨by rfl, fun w hSw => ?hyrtm1⟩) (by assumption) ?rrtm1
  case hyrtm1 => (try dsimp only at hSw); go_simp; (try with_reducible rfl)
  (try simp only [Act.put, List.setIfInBounds_toArray, List.set_cons_zero, List.set_cons_succ])
  refine wpAnyH_take (i := 1) (oi := ({ dst := some 8, op := Op.load 243 (Operand.tmp 7), type := 243, pos := "parts.go:96", after := #[{ on := 0, ground := Ground.data }], guard := none } : Oper)) (v := ?vrtm2) rfl (by kernel_rfl) (by kernel_rfl) (by kernel_rfl) (fun _ _ _ h => h) (Or.inl ⟨by rfl, fun w hSw => ?hyrtm2⟩) (by assumption) ?rrtm2
  case hyrtm2 => (try dsimp only at hSw); go_simp; (try with_reducible rfl)
  (try simp only [Act.put, List.setIfInBounds_toArray, List.set_cons_zero, List.set_cons_succ])
  refine wpAnyH_take (i := 2) (oi := ({ dst := some 9, op := Op.fieldAddr 255 (Operand.tmp 3) 0, type := 0, pos := "parts.go:96", after := #[], guard := none } : Oper)) (v := ?vrtm3) rfl (by kernel_rfl) (by kernel_rfl) (by kernel_rfl) (fun _ _ _ h => h) (Or.inl ⟨by rfl, fun w hSw => ?hyrtm3⟩) (by assumption) ?rrtm3
  case hyrtm3 => (try dsimp only at hSw); go_simp; (try with_reducible rfl)
  (try simp only [Act.put, List.setIfInBounds_toArray, List.set_cons_zero, List.set_cons_succ])
  refine wpAnyH_take (i := 3) (oi := ({ dst := some 10, op := Op.load 243 (Operand.tmp 9), type := 243, pos := "parts.go:96", after := #[{ on := 2, ground := Ground.data }], guard := none } : Oper)) (v := ?vrtm4) rfl (by kernel_rfl) (by kernel_rfl) (by kernel_rfl) (fun _ _ _ h => h) (Or.inl ⟨by rfl, fun w hSw => ?hyrtm4⟩) (by assumption) ?rrtm4
  case hyrtm4 => (try dsimp only at hSw); go_simp; (try with_reducible rfl)
  (try simp only [Act.put, List.setIfInBounds_toArray, List.set_cons_zero, List.set_cons_succ])
  refine wpAnyH_take (i := 4) (oi := ({ dst := some 11, op := Op.move (Operand.tmp 2), type := 24, pos := "parts.go:96", after := #[], guard := none } : Oper)) (v := ?vrtm5) rfl (by kernel_rfl) (by kernel_rfl) (by kernel_rfl) (fun _ _ _ h => h) (Or.inl ⟨by rfl, fun w hSw => ?hyrtm5⟩) (by assumption) ?rrtm5
  case hyrtm5 => (try dsimp only at hSw); go_simp; (try with_reducible rfl)
  (try simp only [Act.put, List.setIfInBounds_toArray, List.set_cons_zero, List.set_cons_succ])
  refine wpAnyH_ready (rs := [5]) (by kernel_rfl) (by simp) ?_
  refine AllReadyH.cons (o := ({ dst := some 12, op := Op.call { callee := Callee.value (Operand.func 290), args := #[Operand.tmp 10, Operand.tmp 11], argTypes := #[243, 24] }, type := 23, pos := "parts.go:96", after := #[{ on := 3, ground := Ground.data }, { on := 4, ground := Ground.data }], guard := none } : Oper)) rfl (fun Kq hKq => ?_) AllReadyH.nil
  go_simp
  (refine HLD.out.mono ?_; rintro e w5 ⟨rfl, X5, h5⟩; have H5 := Lib.hid h5; clear h5)
  refine hKq.out _ _ ?_ (fun hHeld => ?_)
  · exact cell_row (H5.out.last HJ.out) 0
  clear hKq Kq
  (try simp only [Act.put, List.setIfInBounds_toArray, List.set_cons_zero, List.set_cons_succ])
  refine wpAnyH_take (i := 6) (oi := ({ dst := some 13, op := Op.nilCheck (Operand.tmp 8), type := 0, pos := "parts.go:96", after := #[{ on := 1, ground := Ground.data }, { on := 0, ground := Ground.phase }, { on := 1, ground := Ground.phase }, { on := 2, ground := Ground.phase }, { on := 3, ground := Ground.phase }, { on := 4, ground := Ground.phase }, { on := 5, ground := Ground.phase }], guard := none } : Oper)) (v := ?vrtm6) rfl (by kernel_rfl) (by kernel_rfl) (by kernel_rfl) (fun _ _ _ h => h) (Or.inl ⟨by rfl, fun w hSw => ?hyrtm6⟩) (by assumption) ?rrtm6
  case hyrtm6 => (try dsimp only at hSw); go_simp; (try with_reducible rfl)
  (try simp only [Act.put, List.setIfInBounds_toArray, List.set_cons_zero, List.set_cons_succ])
  refine wpAnyH_take (i := 7) (oi := ({ dst := some 14, op := Op.fieldAddr 253 (Operand.tmp 13) 2, type := 0, pos := "parts.go:96", after := #[{ on := 6, ground := Ground.data }, { on := 0, ground := Ground.phase }, { on := 1, ground := Ground.phase }, { on := 2, ground := Ground.phase }, { on := 3, ground := Ground.phase }, { on := 4, ground := Ground.phase }, { on := 5, ground := Ground.phase }], guard := none } : Oper)) (v := ?vrtm7) rfl (by kernel_rfl) (by kernel_rfl) (by kernel_rfl) (fun _ _ _ h => h) (Or.inl ⟨by rfl, fun w hSw => ?hyrtm7⟩) (by assumption) ?rrtm7
  case hyrtm7 => (try dsimp only at hSw); go_simp; (try with_reducible rfl)
  (try simp only [Act.put, List.setIfInBounds_toArray, List.set_cons_zero, List.set_cons_succ])
  refine wpAnyH_ready (rs := [8]) (by kernel_rfl) (by simp) ?_
  refine AllReadyH.cons (o := ({ dst := none, op := Op.store 23 (Operand.tmp 14) (Operand.tmp 12), type := 0, pos := "parts.go:96", after := #[{ on := 7, ground := Ground.data }, { on := 5, ground := Ground.data }, { on := 5, ground := Ground.chain }, { on := 0, ground := Ground.phase }, { on := 1, ground := Ground.phase }, { on := 2, ground := Ground.phase }, { on := 3, ground := Ground.phase }, { on := 4, ground := Ground.phase }, { on := 5, ground := Ground.phase }], guard := none } : Oper)) rfl (fun Kq hKq => ?_) AllReadyH.nil
  (have y1 := H5.out.tc.2; have f1 := (H5.out.fz 2).2.2; go_simp; have h6 := H5.out.putT x; have H6 := Lib.hid h6; clear y1 f1 h6; generalize w5.setCell ⟨Z.TB, 2, none⟩ (.int .u64 (x : Int)) = w6 at *)
  refine hKq.out _ _ ?_ (fun hHeld => ?_)
  · exact cell_row (H6.out.last HJ.out) 0
  clear hKq Kq
  (try simp only [Act.put, List.setIfInBounds_toArray, List.set_cons_zero, List.set_cons_succ])
  refine wpAnyH_done (by kernel_rfl) ?_ _
  clear hHeld HLD HA
  go_wp2_with fail
  go_ret
  exact ⟨rfl, X5, H6.out.dropB HJ.out⟩
set_option maxRecDepth 100000 in
set_option maxHeartbeats 4000000 in
theorem rstep_k (h : Wy w0 w base WB M r j true t kw tw Z X) (hn : M.n ≤ 1000000000) (ht : t < 64) {x : Nat} (hx : x = S2.look M.L (64 + t)) {y : Nat} (hy : y = x % 4294967296) {ad : Nat} (had : ad = 64 + t) (s : Value) : Calls Tryz.prog 292 #[.agg #[Pw Z.KB], s, Pw WB] w fun e w' => e = .returned (.bool true) ∧ ∃ X', Wy w0 w' base WB (M.acc 1 ad x) r j true t y tw Z X' := by
  have hj := h.hj
  have hA := h.pushB (.cells #[Pw Z.KB] 255)
  obtain ⟨Q, hQ⟩ : ∃ Q, Q = w.heap.size := ⟨_, rfl⟩
  rw [← hQ] at hA
  obtain ⟨sd, hsd⟩ : ∃ sd, sd = kw := ⟨_, rfl⟩
  have HA := Lib.hid hA; have HJ := Lib.hid hj; have HQ := Lib.hid hQ; have HSD := Lib.hid hsd
  have HLD := Lib.hid (look_k (hA.new (Below.refl _ _).drew) hn hx hy ht had)
  clear h hj hA hQ hx hn hsd ht hy had
  go_enter Tryz.func292, Tryz.ntmps292
  go_upto_region 1 with (fail)
  rw [← HQ.out]
  generalize w.alloc (.cells #[Pw Z.KB] 255) = w1 at *
  refine wp_region_held_drew (S := fun w' => w'.cell? ⟨Q, 0, none⟩ = some (Pw Z.KB)) (by kernel_rfl) ?_ (fun hHeld => ?_)
  · exact cell_row ((HA.out.new (Below.refl _ _).drew).last HJ.out) 0
  refine wpAnyH_take (i := 0) (oi := ({ dst := some 7, op := Op.fieldAddr 255 (Operand.tmp 3) 0, type := 0, pos := "parts.go:96", after := #[], guard := none } : Oper)) (v := ?vrkm1) rfl (by kernel_rfl) (by kernel_rfl) (by kernel_rfl) (fun _ _ _ h => h) (Or.inl ⟨by rfl, fun w hSw => ?hyrkm1⟩) (by assumption) ?rrkm1
  case hyrkm1 => (try dsimp only at hSw); go_simp; (try with_reducible rfl)
  (try simp only [Act.put, List.setIfInBounds_toArray, List.set_cons_zero, List.set_cons_succ])
  refine wpAnyH_take (i := 1) (oi := ({ dst := some 8, op := Op.load 243 (Operand.tmp 7), type := 243, pos := "parts.go:96", after := #[{ on := 0, ground := Ground.data }], guard := none } : Oper)) (v := ?vrkm2) rfl (by kernel_rfl) (by kernel_rfl) (by kernel_rfl) (fun _ _ _ h => h) (Or.inl ⟨by rfl, fun w hSw => ?hyrkm2⟩) (by assumption) ?rrkm2
  case hyrkm2 => (try dsimp only at hSw); go_simp; (try with_reducible rfl)
  (try simp only [Act.put, List.setIfInBounds_toArray, List.set_cons_zero, List.set_cons_succ])
  refine wpAnyH_take (i := 2) (oi := ({ dst := some 9, op := Op.fieldAddr 255 (Operand.tmp 3) 0, type := 0, pos := "parts.go:96", after := #[], guard := none } : Oper)) (v := ?vrkm3) rfl (by kernel_rfl) (by kernel_rfl) (by kernel_rfl) (fun _ _ _ h => h) (Or.inl ⟨by rfl, fun w hSw => ?hyrkm3⟩) (by assumption) ?rrkm3
  case hyrkm3 => (try dsimp only at hSw); go_simp; (try with_reducible rfl)
  (try simp only [Act.put, List.setIfInBounds_toArray, List.set_cons_zero, List.set_cons_succ])
  refine wpAnyH_take (i := 3) (oi := ({ dst := some 10, op := Op.load 243 (Operand.tmp 9), type := 243, pos := "parts.go:96", after := #[{ on := 2, ground := Ground.data }], guard := none } : Oper)) (v := ?vrkm4) rfl (by kernel_rfl) (by kernel_rfl) (by kernel_rfl) (fun _ _ _ h => h) (Or.inl ⟨by rfl, fun w hSw => ?hyrkm4⟩) (by assumption) ?rrkm4
  case hyrkm4 => (try dsimp only at hSw); go_simp; (try with_reducible rfl)
  (try simp only [Act.put, List.setIfInBounds_toArray, List.set_cons_zero, List.set_cons_succ])
  refine wpAnyH_take (i := 4) (oi := ({ dst := some 11, op := Op.move (Operand.tmp 2), type := 24, pos := "parts.go:96", after := #[], guard := none } : Oper)) (v := ?vrkm5) rfl (by kernel_rfl) (by kernel_rfl) (by kernel_rfl) (fun _ _ _ h => h) (Or.inl ⟨by rfl, fun w hSw => ?hyrkm5⟩) (by assumption) ?rrkm5
  case hyrkm5 => (try dsimp only at hSw); go_simp; (try with_reducible rfl)
  (try simp only [Act.put, List.setIfInBounds_toArray, List.set_cons_zero, List.set_cons_succ])
  refine wpAnyH_ready (rs := [5]) (by kernel_rfl) (by simp) ?_
  refine AllReadyH.cons (o := ({ dst := some 12, op := Op.call { callee := Callee.value (Operand.func 290), args := #[Operand.tmp 10, Operand.tmp 11], argTypes := #[243, 24] }, type := 23, pos := "parts.go:96", after := #[{ on := 3, ground := Ground.data }, { on := 4, ground := Ground.data }], guard := none } : Oper)) rfl (fun Kq hKq => ?_) AllReadyH.nil
  go_simp
  (refine HLD.out.mono ?_; rintro e w5 ⟨rfl, X5, h5⟩; have H5 := Lib.hid h5; clear h5)
  refine hKq.out _ _ ?_ (fun hHeld => ?_)
  · exact cell_row (H5.out.last HJ.out) 0
  clear hKq Kq
  (try simp only [Act.put, List.setIfInBounds_toArray, List.set_cons_zero, List.set_cons_succ])
  refine wpAnyH_take (i := 6) (oi := ({ dst := some 13, op := Op.nilCheck (Operand.tmp 8), type := 0, pos := "parts.go:96", after := #[{ on := 1, ground := Ground.data }, { on := 0, ground := Ground.phase }, { on := 1, ground := Ground.phase }, { on := 2, ground := Ground.phase }, { on := 3, ground := Ground.phase }, { on := 4, ground := Ground.phase }, { on := 5, ground := Ground.phase }], guard := none } : Oper)) (v := ?vrkm6) rfl (by kernel_rfl) (by kernel_rfl) (by kernel_rfl) (fun _ _ _ h => h) (Or.inl ⟨by rfl, fun w hSw => ?hyrkm6⟩) (by assumption) ?rrkm6
  case hyrkm6 => (try dsimp only at hSw); go_simp; (try with_reducible rfl)
  (try simp only [Act.put, List.setIfInBounds_toArray, List.set_cons_zero, List.set_cons_succ])
  refine wpAnyH_take (i := 7) (oi := ({ dst := some 14, op := Op.fieldAddr 253 (Operand.tmp 13) 2, type := 0, pos := "parts.go:96", after := #[{ on := 6, ground := Ground.data }, { on := 0, ground := Ground.phase }, { on := 1, ground := Ground.phase }, { on := 2, ground := Ground.phase }, { on := 3, ground := Ground.phase }, { on := 4, ground := Ground.phase }, { on := 5, ground := Ground.phase }], guard := none } : Oper)) (v := ?vrkm7) rfl (by kernel_rfl) (by kernel_rfl) (by kernel_rfl) (fun _ _ _ h => h) (Or.inl ⟨by rfl, fun w hSw => ?hyrkm7⟩) (by assumption) ?rrkm7
  case hyrkm7 => (try dsimp only at hSw); go_simp; (try with_reducible rfl)
  (try simp only [Act.put, List.setIfInBounds_toArray, List.set_cons_zero, List.set_cons_succ])
  refine wpAnyH_ready (rs := [8]) (by kernel_rfl) (by simp) ?_
  refine AllReadyH.cons (o := ({ dst := none, op := Op.store 23 (Operand.tmp 14) (Operand.tmp 12), type := 0, pos := "parts.go:96", after := #[{ on := 7, ground := Ground.data }, { on := 5, ground := Ground.data }, { on := 5, ground := Ground.chain }, { on := 0, ground := Ground.phase }, { on := 1, ground := Ground.phase }, { on := 2, ground := Ground.phase }, { on := 3, ground := Ground.phase }, { on := 4, ground := Ground.phase }, { on := 5, ground := Ground.phase }], guard := none } : Oper)) rfl (fun Kq hKq => ?_) AllReadyH.nil
  (have y1 := H5.out.kc.2; have f1 := (H5.out.fz 2).2.1; go_simp; have h6 := H5.out.putK y; have H6 := Lib.hid h6; clear y1 f1 h6; generalize w5.setCell ⟨Z.KB, 2, none⟩ (.int .u64 (y : Int)) = w6 at *)
  refine hKq.out _ _ ?_ (fun hHeld => ?_)
  · exact cell_row (H6.out.last HJ.out) 0
  clear hKq Kq
  (try simp only [Act.put, List.setIfInBounds_toArray, List.set_cons_zero, List.set_cons_succ])
  refine wpAnyH_done (by kernel_rfl) ?_ _
  clear hHeld HLD HA
  go_wp2_with fail
  go_ret
  exact ⟨rfl, X5, H6.out.dropB HJ.out⟩
set_option maxRecDepth 100000 in
set_option maxHeartbeats 4000000 in
theorem astep_t (h : Wy w0 w base WB M r j o t kw tw Z X) (hn : M.n ≤ 1000000000) {x : Nat} (hx : x = S2.look M.L (0)) {b : Bool} (hb : b = !decide (x = tw)) : Calls Tryz.prog 307 #[.agg #[Pw Z.TB], sP Z.B, Pw WB] w fun e w' => e = .returned (.bool true) ∧ ∃ X', Wy w0 w' base WB (M.acc 1 0 x) r j o t kw tw { Z with st := b } X' := by
  have hj := h.hj
  have hA := h.pushB (.cells #[Pw Z.TB] 259)
  obtain ⟨Q, hQ⟩ : ∃ Q, Q = w.heap.size := ⟨_, rfl⟩
  rw [← hQ] at hA
  obtain ⟨sd, hsd⟩ : ∃ sd, sd = tw := ⟨_, rfl⟩
  have HA := Lib.hid hA; have HJ := Lib.hid hj; have HQ := Lib.hid hQ; have HSD := Lib.hid hsd
  have HLD := Lib.hid (look_t (hA.new (Below.refl _ _).drew) hn hx)
  have hne : ((x : Int) != (sd : Int)) = b := by
    rw [hb, hsd]
    by_cases e : x = tw
    · rw [e]; simp
    · rw [decide_eq_false e]; simp; omega
  have hne2 : (!decide ((x : Int) = (sd : Int))) = b := by
    rw [hb, hsd]
    by_cases e : x = tw
    · rw [e]; simp
    · rw [decide_eq_false e, decide_eq_false (by omega)]
  clear h hj hA hQ hx hn hsd hb
  go_enter Tryz.func307, Tryz.ntmps307
  go_upto_region 1 with (fail)
  rw [← HQ.out]
  generalize w.alloc (.cells #[Pw Z.TB] 259) = w1 at *
  refine wp_region_held_drew (S := fun w' => w'.cell? ⟨Q, 0, none⟩ = some (Pw Z.TB) ∧ w'.cell? ⟨Z.TB, 2, none⟩ = some (.int .u64 (sd : Int))) (by kernel_rfl) ?_ (fun hHeld => ?_)
  · exact ⟨cell_row ((HA.out.new (Below.refl _ _).drew).last HJ.out) 0, by rw [HSD.out]; exact (HA.out.new (Below.refl _ _).drew).tc.2⟩
  refine wpAnyH_take (i := 0) (oi := ({ dst := some 7, op := Op.move (Operand.tmp 1), type := 351, pos := "parts.go:106", after := #[], guard := none } : Oper)) (v := ?vatm1) rfl (by kernel_rfl) (by kernel_rfl) (by kernel_rfl) (fun _ _ _ h => h) (Or.inl ⟨by rfl, fun w hSw => ?hyatm1⟩) (by assumption) ?ratm1
  case hyatm1 => (try dsimp only at hSw); go_simp; (try with_reducible rfl)
  (try simp only [Act.put, List.setIfInBounds_toArray, List.set_cons_zero, List.set_cons_succ])
  refine wpAnyH_take (i := 1) (oi := ({ dst := some 8, op := Op.fieldAddr 259 (Operand.tmp 3) 0, type := 0, pos := "parts.go:106", after := #[], guard := none } : Oper)) (v := ?vatm2) rfl (by kernel_rfl) (by kernel_rfl) (by kernel_rfl) (fun _ _ _ h => h) (Or.inl ⟨by rfl, fun w hSw => ?hyatm2⟩) (by assumption) ?ratm2
  case hyatm2 => (try dsimp only at hSw); go_simp; (try with_reducible rfl)
  (try simp only [Act.put, List.setIfInBounds_toArray, List.set_cons_zero, List.set_cons_succ])
  refine wpAnyH_take (i := 2) (oi := ({ dst := some 9, op := Op.load 243 (Operand.tmp 8), type := 243, pos := "parts.go:106", after := #[{ on := 1, ground := Ground.data }], guard := none } : Oper)) (v := ?vatm3) rfl (by kernel_rfl) (by kernel_rfl) (by kernel_rfl) (fun _ _ _ h => h) (Or.inl ⟨by rfl, fun w hSw => ?hyatm3⟩) (by assumption) ?ratm3
  case hyatm3 => (try dsimp only at hSw); go_simp; (try with_reducible rfl)
  (try simp only [Act.put, List.setIfInBounds_toArray, List.set_cons_zero, List.set_cons_succ])
  refine wpAnyH_take (i := 3) (oi := ({ dst := some 10, op := Op.move (Operand.tmp 2), type := 24, pos := "parts.go:106", after := #[], guard := none } : Oper)) (v := ?vatm4) rfl (by kernel_rfl) (by kernel_rfl) (by kernel_rfl) (fun _ _ _ h => h) (Or.inl ⟨by rfl, fun w hSw => ?hyatm4⟩) (by assumption) ?ratm4
  case hyatm4 => (try dsimp only at hSw); go_simp; (try with_reducible rfl)
  (try simp only [Act.put, List.setIfInBounds_toArray, List.set_cons_zero, List.set_cons_succ])
  refine wpAnyH_take (i := 5) (oi := ({ dst := some 12, op := Op.fieldAddr 259 (Operand.tmp 3) 0, type := 0, pos := "parts.go:106", after := #[], guard := none } : Oper)) (v := ?vatm5) rfl (by kernel_rfl) (by kernel_rfl) (by kernel_rfl) (fun _ _ _ h => h) (Or.inl ⟨by rfl, fun w hSw => ?hyatm5⟩) (by assumption) ?ratm5
  case hyatm5 => (try dsimp only at hSw); go_simp; (try with_reducible rfl)
  (try simp only [Act.put, List.setIfInBounds_toArray, List.set_cons_zero, List.set_cons_succ])
  refine wpAnyH_take (i := 6) (oi := ({ dst := some 13, op := Op.load 243 (Operand.tmp 12), type := 243, pos := "parts.go:106", after := #[{ on := 5, ground := Ground.data }], guard := none } : Oper)) (v := ?vatm6) rfl (by kernel_rfl) (by kernel_rfl) (by kernel_rfl) (fun _ _ _ h => h) (Or.inl ⟨by rfl, fun w hSw => ?hyatm6⟩) (by assumption) ?ratm6
  case hyatm6 => (try dsimp only at hSw); go_simp; (try with_reducible rfl)
  (try simp only [Act.put, List.setIfInBounds_toArray, List.set_cons_zero, List.set_cons_succ])
  refine wpAnyH_take (i := 7) (oi := ({ dst := some 14, op := Op.nilCheck (Operand.tmp 13), type := 0, pos := "parts.go:106", after := #[{ on := 6, ground := Ground.data }], guard := none } : Oper)) (v := ?vatm7) rfl (by kernel_rfl) (by kernel_rfl) (by kernel_rfl) (fun _ _ _ h => h) (Or.inl ⟨by rfl, fun w hSw => ?hyatm7⟩) (by assumption) ?ratm7
  case hyatm7 => (try dsimp only at hSw); go_simp; (try with_reducible rfl)
  (try simp only [Act.put, List.setIfInBounds_toArray, List.set_cons_zero, List.set_cons_succ])
  refine wpAnyH_take (i := 8) (oi := ({ dst := some 15, op := Op.fieldAddr 253 (Operand.tmp 14) 2, type := 0, pos := "parts.go:106", after := #[{ on := 7, ground := Ground.data }], guard := none } : Oper)) (v := ?vatm8) rfl (by kernel_rfl) (by kernel_rfl) (by kernel_rfl) (fun _ _ _ h => h) (Or.inl ⟨by rfl, fun w hSw => ?hyatm8⟩) (by assumption) ?ratm8
  case hyatm8 => (try dsimp only at hSw); go_simp; (try with_reducible rfl)
  (try simp only [Act.put, List.setIfInBounds_toArray, List.set_cons_zero, List.set_cons_succ])
  refine wpAnyH_take (i := 9) (oi := ({ dst := some 16, op := Op.load 23 (Operand.tmp 15), type := 23, pos := "parts.go:106", after := #[{ on := 8, ground := Ground.data }], guard := none } : Oper)) (v := ?vatm9) rfl (by kernel_rfl) (by kernel_rfl) (by kernel_rfl) (fun _ _ _ h => h) (Or.inl ⟨by rfl, fun w hSw => ?hyatm9⟩) (by assumption) ?ratm9
  case hyatm9 => (try dsimp only at hSw); go_simp; (try with_reducible rfl)
  (try simp only [Act.put, List.setIfInBounds_toArray, List.set_cons_zero, List.set_cons_succ])
  refine wpAnyH_ready (rs := [4]) (by kernel_rfl) (by simp) ?_
  refine AllReadyH.cons (o := ({ dst := some 11, op := Op.call { callee := Callee.value (Operand.func 290), args := #[Operand.tmp 9, Operand.tmp 10], argTypes := #[243, 24] }, type := 23, pos := "parts.go:106", after := #[{ on := 2, ground := Ground.data }, { on := 3, ground := Ground.data }], guard := none } : Oper)) rfl (fun Kq hKq => ?_) AllReadyH.nil
  go_simp
  (refine HLD.out.mono ?_; rintro e w5 ⟨rfl, X5, h5⟩; have H5 := Lib.hid h5; clear h5)
  refine hKq.out _ _ ?_ (fun hHeld => ?_)
  · exact ⟨cell_row (H5.out.last HJ.out) 0, by rw [HSD.out]; exact H5.out.tc.2⟩
  clear hKq Kq
  (try simp only [Act.put, List.setIfInBounds_toArray, List.set_cons_zero, List.set_cons_succ])
  refine wpAnyH_take (i := 10) (oi := ({ dst := some 17, op := Op.binOp BinOp.neq 23 (Operand.tmp 11) (Operand.tmp 16) 23, type := 4, pos := "parts.go:106", after := #[{ on := 4, ground := Ground.data }, { on := 9, ground := Ground.data }], guard := none } : Oper)) (v := ?vatm10) rfl (by kernel_rfl) (by kernel_rfl) (by kernel_rfl) (fun _ _ _ h => h) (Or.inl ⟨by rfl, fun w hSw => ?hyatm10⟩) (by assumption) ?ratm10
  case hyatm10 => (try dsimp only at hSw); go_simp; (try with_reducible rfl)
  (try simp only [Act.put, List.setIfInBounds_toArray, List.set_cons_zero, List.set_cons_succ])
  refine wpAnyH_take (i := 11) (oi := ({ dst := some 18, op := Op.nilCheck (Operand.tmp 7), type := 0, pos := "parts.go:106", after := #[{ on := 0, ground := Ground.data }, { on := 0, ground := Ground.phase }, { on := 1, ground := Ground.phase }, { on := 2, ground := Ground.phase }, { on := 3, ground := Ground.phase }, { on := 4, ground := Ground.phase }, { on := 5, ground := Ground.phase }, { on := 6, ground := Ground.phase }, { on := 7, ground := Ground.phase }, { on := 8, ground := Ground.phase }, { on := 9, ground := Ground.phase }, { on := 10, ground := Ground.phase }], guard := none } : Oper)) (v := ?vatm11) rfl (by kernel_rfl) (by kernel_rfl) (by kernel_rfl) (fun _ _ _ h => h) (Or.inl ⟨by rfl, fun w hSw => ?hyatm11⟩) (by assumption) ?ratm11
  case hyatm11 => (try dsimp only at hSw); go_simp; (try with_reducible rfl)
  (try simp only [Act.put, List.setIfInBounds_toArray, List.set_cons_zero, List.set_cons_succ])
  refine wpAnyH_take (i := 12) (oi := ({ dst := some 19, op := Op.fieldAddr 247 (Operand.tmp 18) 4, type := 0, pos := "parts.go:106", after := #[{ on := 11, ground := Ground.data }, { on := 0, ground := Ground.phase }, { on := 1, ground := Ground.phase }, { on := 2, ground := Ground.phase }, { on := 3, ground := Ground.phase }, { on := 4, ground := Ground.phase }, { on := 5, ground := Ground.phase }, { on := 6, ground := Ground.phase }, { on := 7, ground := Ground.phase }, { on := 8, ground := Ground.phase }, { on := 9, ground := Ground.phase }, { on := 10, ground := Ground.phase }], guard := none } : Oper)) (v := ?vatm12) rfl (by kernel_rfl) (by kernel_rfl) (by kernel_rfl) (fun _ _ _ h => h) (Or.inl ⟨by rfl, fun w hSw => ?hyatm12⟩) (by assumption) ?ratm12
  case hyatm12 => (try dsimp only at hSw); go_simp; (try with_reducible rfl)
  (try simp only [Act.put, List.setIfInBounds_toArray, List.set_cons_zero, List.set_cons_succ])
  refine wpAnyH_ready (rs := [13]) (by kernel_rfl) (by simp) ?_
  refine AllReadyH.cons (o := ({ dst := none, op := Op.store 4 (Operand.tmp 19) (Operand.tmp 17), type := 0, pos := "parts.go:106", after := #[{ on := 12, ground := Ground.data }, { on := 10, ground := Ground.data }, { on := 4, ground := Ground.chain }, { on := 0, ground := Ground.phase }, { on := 1, ground := Ground.phase }, { on := 2, ground := Ground.phase }, { on := 3, ground := Ground.phase }, { on := 4, ground := Ground.phase }, { on := 5, ground := Ground.phase }, { on := 6, ground := Ground.phase }, { on := 7, ground := Ground.phase }, { on := 8, ground := Ground.phase }, { on := 9, ground := Ground.phase }, { on := 10, ground := Ground.phase }], guard := none } : Oper)) rfl (fun Kq hKq => ?_) AllReadyH.nil
  (have y1 := H5.out.c.2.2.2.2.2.2.2.1; have f1 := (H5.out.fz 7).1; go_simp; have h6 := H5.out.put 7 (.bool b) { Z with st := b } rfl rfl rfl rfl rfl; have H6 := Lib.hid h6; clear y1 f1 h6; generalize w5.setCell ⟨Z.B, 7, none⟩ (.bool b) = w6 at *)
  refine hKq.out _ _ ?_ (fun hHeld => ?_)
  · exact ⟨cell_row (H6.out.last HJ.out) 0, by rw [HSD.out]; exact H6.out.tc.2⟩
  clear hKq Kq
  (try simp only [Act.put, List.setIfInBounds_toArray, List.set_cons_zero, List.set_cons_succ])
  refine wpAnyH_done (by kernel_rfl) ?_ _
  clear hHeld HLD HA
  go_wp2_with fail
  go_ret
  exact ⟨rfl, X5, H6.out.dropB HJ.out⟩
set_option maxRecDepth 100000 in
set_option maxHeartbeats 4000000 in
theorem astep_k (h : Wy w0 w base WB M r j true t kw tw Z X) (hn : M.n ≤ 1000000000) (ht : t < 64) {x : Nat} (hx : x = S2.look M.L (64 + t)) {y : Nat} (hy : y = x % 4294967296) {ad : Nat} (had : ad = 64 + t) {b : Bool} (hb : b = !decide (y = kw)) : Calls Tryz.prog 307 #[.agg #[Pw Z.KB], sP Z.B, Pw WB] w fun e w' => e = .returned (.bool true) ∧ ∃ X', Wy w0 w' base WB (M.acc 1 ad x) r j true t kw tw { Z with st := b } X' := by
  have hj := h.hj
  have hA := h.pushB (.cells #[Pw Z.KB] 259)
  obtain ⟨Q, hQ⟩ : ∃ Q, Q = w.heap.size := ⟨_, rfl⟩
  rw [← hQ] at hA
  obtain ⟨sd, hsd⟩ : ∃ sd, sd = kw := ⟨_, rfl⟩
  have HA := Lib.hid hA; have HJ := Lib.hid hj; have HQ := Lib.hid hQ; have HSD := Lib.hid hsd
  have HLD := Lib.hid (look_k (hA.new (Below.refl _ _).drew) hn hx hy ht had)
  have hne : ((y : Int) != (sd : Int)) = b := by
    rw [hb, hsd]
    by_cases e : y = kw
    · rw [e]; simp
    · rw [decide_eq_false e]; simp; omega
  have hne2 : (!decide ((y : Int) = (sd : Int))) = b := by
    rw [hb, hsd]
    by_cases e : y = kw
    · rw [e]; simp
    · rw [decide_eq_false e, decide_eq_false (by omega)]
  clear h hj hA hQ hx hn hsd ht hy had hb
  go_enter Tryz.func307, Tryz.ntmps307
  go_upto_region 1 with (fail)
  rw [← HQ.out]
  generalize w.alloc (.cells #[Pw Z.KB] 259) = w1 at *
  refine wp_region_held_drew (S := fun w' => w'.cell? ⟨Q, 0, none⟩ = some (Pw Z.KB) ∧ w'.cell? ⟨Z.KB, 2, none⟩ = some (.int .u64 (sd : Int))) (by kernel_rfl) ?_ (fun hHeld => ?_)
  · exact ⟨cell_row ((HA.out.new (Below.refl _ _).drew).last HJ.out) 0, by rw [HSD.out]; exact (HA.out.new (Below.refl _ _).drew).kc.2⟩
  refine wpAnyH_take (i := 0) (oi := ({ dst := some 7, op := Op.move (Operand.tmp 1), type := 351, pos := "parts.go:106", after := #[], guard := none } : Oper)) (v := ?vakm1) rfl (by kernel_rfl) (by kernel_rfl) (by kernel_rfl) (fun _ _ _ h => h) (Or.inl ⟨by rfl, fun w hSw => ?hyakm1⟩) (by assumption) ?rakm1
  case hyakm1 => (try dsimp only at hSw); go_simp; (try with_reducible rfl)
  (try simp only [Act.put, List.setIfInBounds_toArray, List.set_cons_zero, List.set_cons_succ])
  refine wpAnyH_take (i := 1) (oi := ({ dst := some 8, op := Op.fieldAddr 259 (Operand.tmp 3) 0, type := 0, pos := "parts.go:106", after := #[], guard := none } : Oper)) (v := ?vakm2) rfl (by kernel_rfl) (by kernel_rfl) (by kernel_rfl) (fun _ _ _ h => h) (Or.inl ⟨by rfl, fun w hSw => ?hyakm2⟩) (by assumption) ?rakm2
  case hyakm2 => (try dsimp only at hSw); go_simp; (try with_reducible rfl)
  (try simp only [Act.put, List.setIfInBounds_toArray, List.set_cons_zero, List.set_cons_succ])
  refine wpAnyH_take (i := 2) (oi := ({ dst := some 9, op := Op.load 243 (Operand.tmp 8), type := 243, pos := "parts.go:106", after := #[{ on := 1, ground := Ground.data }], guard := none } : Oper)) (v := ?vakm3) rfl (by kernel_rfl) (by kernel_rfl) (by kernel_rfl) (fun _ _ _ h => h) (Or.inl ⟨by rfl, fun w hSw => ?hyakm3⟩) (by assumption) ?rakm3
  case hyakm3 => (try dsimp only at hSw); go_simp; (try with_reducible rfl)
  (try simp only [Act.put, List.setIfInBounds_toArray, List.set_cons_zero, List.set_cons_succ])
  refine wpAnyH_take (i := 3) (oi := ({ dst := some 10, op := Op.move (Operand.tmp 2), type := 24, pos := "parts.go:106", after := #[], guard := none } : Oper)) (v := ?vakm4) rfl (by kernel_rfl) (by kernel_rfl) (by kernel_rfl) (fun _ _ _ h => h) (Or.inl ⟨by rfl, fun w hSw => ?hyakm4⟩) (by assumption) ?rakm4
  case hyakm4 => (try dsimp only at hSw); go_simp; (try with_reducible rfl)
  (try simp only [Act.put, List.setIfInBounds_toArray, List.set_cons_zero, List.set_cons_succ])
  refine wpAnyH_take (i := 5) (oi := ({ dst := some 12, op := Op.fieldAddr 259 (Operand.tmp 3) 0, type := 0, pos := "parts.go:106", after := #[], guard := none } : Oper)) (v := ?vakm5) rfl (by kernel_rfl) (by kernel_rfl) (by kernel_rfl) (fun _ _ _ h => h) (Or.inl ⟨by rfl, fun w hSw => ?hyakm5⟩) (by assumption) ?rakm5
  case hyakm5 => (try dsimp only at hSw); go_simp; (try with_reducible rfl)
  (try simp only [Act.put, List.setIfInBounds_toArray, List.set_cons_zero, List.set_cons_succ])
  refine wpAnyH_take (i := 6) (oi := ({ dst := some 13, op := Op.load 243 (Operand.tmp 12), type := 243, pos := "parts.go:106", after := #[{ on := 5, ground := Ground.data }], guard := none } : Oper)) (v := ?vakm6) rfl (by kernel_rfl) (by kernel_rfl) (by kernel_rfl) (fun _ _ _ h => h) (Or.inl ⟨by rfl, fun w hSw => ?hyakm6⟩) (by assumption) ?rakm6
  case hyakm6 => (try dsimp only at hSw); go_simp; (try with_reducible rfl)
  (try simp only [Act.put, List.setIfInBounds_toArray, List.set_cons_zero, List.set_cons_succ])
  refine wpAnyH_take (i := 7) (oi := ({ dst := some 14, op := Op.nilCheck (Operand.tmp 13), type := 0, pos := "parts.go:106", after := #[{ on := 6, ground := Ground.data }], guard := none } : Oper)) (v := ?vakm7) rfl (by kernel_rfl) (by kernel_rfl) (by kernel_rfl) (fun _ _ _ h => h) (Or.inl ⟨by rfl, fun w hSw => ?hyakm7⟩) (by assumption) ?rakm7
  case hyakm7 => (try dsimp only at hSw); go_simp; (try with_reducible rfl)
  (try simp only [Act.put, List.setIfInBounds_toArray, List.set_cons_zero, List.set_cons_succ])
  refine wpAnyH_take (i := 8) (oi := ({ dst := some 15, op := Op.fieldAddr 253 (Operand.tmp 14) 2, type := 0, pos := "parts.go:106", after := #[{ on := 7, ground := Ground.data }], guard := none } : Oper)) (v := ?vakm8) rfl (by kernel_rfl) (by kernel_rfl) (by kernel_rfl) (fun _ _ _ h => h) (Or.inl ⟨by rfl, fun w hSw => ?hyakm8⟩) (by assumption) ?rakm8
  case hyakm8 => (try dsimp only at hSw); go_simp; (try with_reducible rfl)
  (try simp only [Act.put, List.setIfInBounds_toArray, List.set_cons_zero, List.set_cons_succ])
  refine wpAnyH_take (i := 9) (oi := ({ dst := some 16, op := Op.load 23 (Operand.tmp 15), type := 23, pos := "parts.go:106", after := #[{ on := 8, ground := Ground.data }], guard := none } : Oper)) (v := ?vakm9) rfl (by kernel_rfl) (by kernel_rfl) (by kernel_rfl) (fun _ _ _ h => h) (Or.inl ⟨by rfl, fun w hSw => ?hyakm9⟩) (by assumption) ?rakm9
  case hyakm9 => (try dsimp only at hSw); go_simp; (try with_reducible rfl)
  (try simp only [Act.put, List.setIfInBounds_toArray, List.set_cons_zero, List.set_cons_succ])
  refine wpAnyH_ready (rs := [4]) (by kernel_rfl) (by simp) ?_
  refine AllReadyH.cons (o := ({ dst := some 11, op := Op.call { callee := Callee.value (Operand.func 290), args := #[Operand.tmp 9, Operand.tmp 10], argTypes := #[243, 24] }, type := 23, pos := "parts.go:106", after := #[{ on := 2, ground := Ground.data }, { on := 3, ground := Ground.data }], guard := none } : Oper)) rfl (fun Kq hKq => ?_) AllReadyH.nil
  go_simp
  (refine HLD.out.mono ?_; rintro e w5 ⟨rfl, X5, h5⟩; have H5 := Lib.hid h5; clear h5)
  refine hKq.out _ _ ?_ (fun hHeld => ?_)
  · exact ⟨cell_row (H5.out.last HJ.out) 0, by rw [HSD.out]; exact H5.out.kc.2⟩
  clear hKq Kq
  (try simp only [Act.put, List.setIfInBounds_toArray, List.set_cons_zero, List.set_cons_succ])
  refine wpAnyH_take (i := 10) (oi := ({ dst := some 17, op := Op.binOp BinOp.neq 23 (Operand.tmp 11) (Operand.tmp 16) 23, type := 4, pos := "parts.go:106", after := #[{ on := 4, ground := Ground.data }, { on := 9, ground := Ground.data }], guard := none } : Oper)) (v := ?vakm10) rfl (by kernel_rfl) (by kernel_rfl) (by kernel_rfl) (fun _ _ _ h => h) (Or.inl ⟨by rfl, fun w hSw => ?hyakm10⟩) (by assumption) ?rakm10
  case hyakm10 => (try dsimp only at hSw); go_simp; (try with_reducible rfl)
  (try simp only [Act.put, List.setIfInBounds_toArray, List.set_cons_zero, List.set_cons_succ])
  refine wpAnyH_take (i := 11) (oi := ({ dst := some 18, op := Op.nilCheck (Operand.tmp 7), type := 0, pos := "parts.go:106", after := #[{ on := 0, ground := Ground.data }, { on := 0, ground := Ground.phase }, { on := 1, ground := Ground.phase }, { on := 2, ground := Ground.phase }, { on := 3, ground := Ground.phase }, { on := 4, ground := Ground.phase }, { on := 5, ground := Ground.phase }, { on := 6, ground := Ground.phase }, { on := 7, ground := Ground.phase }, { on := 8, ground := Ground.phase }, { on := 9, ground := Ground.phase }, { on := 10, ground := Ground.phase }], guard := none } : Oper)) (v := ?vakm11) rfl (by kernel_rfl) (by kernel_rfl) (by kernel_rfl) (fun _ _ _ h => h) (Or.inl ⟨by rfl, fun w hSw => ?hyakm11⟩) (by assumption) ?rakm11
  case hyakm11 => (try dsimp only at hSw); go_simp; (try with_reducible rfl)
  (try simp only [Act.put, List.setIfInBounds_toArray, List.set_cons_zero, List.set_cons_succ])
  refine wpAnyH_take (i := 12) (oi := ({ dst := some 19, op := Op.fieldAddr 247 (Operand.tmp 18) 4, type := 0, pos := "parts.go:106", after := #[{ on := 11, ground := Ground.data }, { on := 0, ground := Ground.phase }, { on := 1, ground := Ground.phase }, { on := 2, ground := Ground.phase }, { on := 3, ground := Ground.phase }, { on := 4, ground := Ground.phase }, { on := 5, ground := Ground.phase }, { on := 6, ground := Ground.phase }, { on := 7, ground := Ground.phase }, { on := 8, ground := Ground.phase }, { on := 9, ground := Ground.phase }, { on := 10, ground := Ground.phase }], guard := none } : Oper)) (v := ?vakm12) rfl (by kernel_rfl) (by kernel_rfl) (by kernel_rfl) (fun _ _ _ h => h) (Or.inl ⟨by rfl, fun w hSw => ?hyakm12⟩) (by assumption) ?rakm12
  case hyakm12 => (try dsimp only at hSw); go_simp; (try with_reducible rfl)
  (try simp only [Act.put, List.setIfInBounds_toArray, List.set_cons_zero, List.set_cons_succ])
  refine wpAnyH_ready (rs := [13]) (by kernel_rfl) (by simp) ?_
  refine AllReadyH.cons (o := ({ dst := none, op := Op.store 4 (Operand.tmp 19) (Operand.tmp 17), type := 0, pos := "parts.go:106", after := #[{ on := 12, ground := Ground.data }, { on := 10, ground := Ground.data }, { on := 4, ground := Ground.chain }, { on := 0, ground := Ground.phase }, { on := 1, ground := Ground.phase }, { on := 2, ground := Ground.phase }, { on := 3, ground := Ground.phase }, { on := 4, ground := Ground.phase }, { on := 5, ground := Ground.phase }, { on := 6, ground := Ground.phase }, { on := 7, ground := Ground.phase }, { on := 8, ground := Ground.phase }, { on := 9, ground := Ground.phase }, { on := 10, ground := Ground.phase }], guard := none } : Oper)) rfl (fun Kq hKq => ?_) AllReadyH.nil
  (have y1 := H5.out.c.2.2.2.2.2.2.2.1; have f1 := (H5.out.fz 7).1; go_simp; have h6 := H5.out.put 7 (.bool b) { Z with st := b } rfl rfl rfl rfl rfl; have H6 := Lib.hid h6; clear y1 f1 h6; generalize w5.setCell ⟨Z.B, 7, none⟩ (.bool b) = w6 at *)
  refine hKq.out _ _ ?_ (fun hHeld => ?_)
  · exact ⟨cell_row (H6.out.last HJ.out) 0, by rw [HSD.out]; exact H6.out.kc.2⟩
  clear hKq Kq
  (try simp only [Act.put, List.setIfInBounds_toArray, List.set_cons_zero, List.set_cons_succ])
  refine wpAnyH_done (by kernel_rfl) ?_ _
  clear hHeld HLD HA
  go_wp2_with fail
  go_ret
  exact ⟨rfl, X5, H6.out.dropB HJ.out⟩
end
end Go.Proofs.YtjppncglkijbjaaGreatDoor.S15
