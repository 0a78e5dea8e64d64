/- Texts of this seat, one behind the other. -/
import Derived.Test.YtjppncglkijbjaaGreatDoorB19
set_option linter.unusedVariables false
set_option linter.unusedSimpArgs false
namespace Go.Proofs.YtjppncglkijbjaaGreatDoor.S13
open Go.Proofs.YtjppncglkijbjaaGreatDoor Go.Proofs.YtjppncglkijbjaaGreatDoor.S11 Go.Proofs.YtjppncglkijbjaaGreatDoor.S12
open Go.RowKit

theorem field_hd (a b : Bool) (h : Int) (w : World) : (Instr.field 330 (.agg #[.bool a, .bool b, .int .i64 h]) 2).run Tryz.prog w = .ok (.int .i64 h) w := by kernel_rfl

section
variable {w0 w w' : World} {base WB : Nat} {M : Sd} {r : List Part} {j B : Nat} {K : Lk} {X : Wm}
set_option maxRecDepth 100000 in
set_option maxHeartbeats 4000000 in
theorem look_l (h : Wl w0 w base WB M r j B K X) (ok : LkOk M K) (hl : K.ln = 3) : Calls Tryz.prog 302 #[askV K.t K.a, Pw B, Pw WB] w fun e w' => e = .returned (.tuple #[]) ∧ Stepped w0 w' base WB M r j B K := by
  unfold Stepped
  rw [show stepM M K = _ from by simp only [stepM, hl]; rfl, show stepK M K = _ from by simp only [stepK, hl]; rfl]
  have hj := h.hj
  have hA := h.pushB (.cells #[.int .i64 (K.t : Int), .int .u32 (K.a : Int)] 433)
  have k0 := cell_row (heap_alloc_new w (.cells #[.int .i64 (K.t : Int), .int .u32 (K.a : Int)] 433)) 0; have k1 := cell_row (heap_alloc_new w (.cells #[.int .i64 (K.t : Int), .int .u32 (K.a : Int)] 433)) 1
  simp only [List.getElem?_toArray, List.getElem?_cons_zero, List.getElem?_cons_succ] at k0 k1
  obtain ⟨Q, hQ⟩ : ∃ Q, Q = w.heap.size := ⟨_, rfl⟩
  rw [← hQ] at hA k0 k1
  have HA := Lib.hid hA; have HJ := Lib.hid hj; have HQ := Lib.hid hQ
  obtain ⟨x, hx⟩ : ∃ x, x = S2.look M.L K.a := ⟨_, rfl⟩
  have hxl : x < 18446744073709551616 := by rw [hx]; exact hA.look K.a
  have HC := Lib.hid ((hA.new (Below.refl _ _).drew).pg.load ok.a ok.n)
  rw [← hx] at HC ⊢
  have HTT : Hid (∀ W M' X', Wl w0 W base WB M' (r ++ [blockP Q (.cells #[.int .i64 (K.t : Int), .int .u32 (K.a : Int)] 433)]) j B K X' → Calls Tryz.prog 299 #[askV K.t K.a, Pw B, .int .u64 (x : Int)] W fun e w' => e = .returned (.tuple #[]) ∧ Wl w0 w' base WB M' (r ++ [blockP Q (.cells #[.int .i64 (K.t : Int), .int .u32 (K.a : Int)] 433)]) j B (K.turn x) X') := Lib.hid (fun W M' X' hW => turn_l hW (by omega) (by have := ok.sp; omega) hxl)
  clear hx hxl ok hl
  clear h hj hQ
  go_enter Tryz.func302, Tryz.ntmps302
  go_upto_region 1 with (fail)
  rw [← HQ.out]
  generalize w.alloc (.cells #[.int .i64 (K.t : Int), .int .u32 (K.a : Int)] 433) = w1 at *
  have HF : Hid ((fun w' => w'.cell? ⟨Q, 0, none⟩ = some (.int .i64 (K.t : Int)) ∧ w'.cell? ⟨Q, 1, none⟩ = some (.int .u32 (K.a : Int)) ∧ w'.cell? ⟨WB, 0, none⟩ = some (Pw X.cB)) w1.drew) := Lib.hid ⟨k0, k1, HA.out.pg.c.1⟩
  clear hA
  refine wp_region_held_drew (S := fun w' => w'.cell? ⟨Q, 0, none⟩ = some (.int .i64 (K.t : Int)) ∧ w'.cell? ⟨Q, 1, none⟩ = some (.int .u32 (K.a : Int)) ∧ w'.cell? ⟨WB, 0, none⟩ = some (Pw X.cB)) (by kernel_rfl) ?_ (fun hHeld => ?_)
  · exact HF.out
  refine wpAnyH_take (i := 0) (oi := ({ dst := some 6, op := Op.load 433 (Operand.tmp 3), type := 433, pos := "wordlocks.go:78", after := #[], guard := none } : Oper)) (v := ?vkm1) rfl (by kernel_rfl) (by kernel_rfl) (by kernel_rfl) (fun _ _ _ h => h) (Or.inl ⟨by rfl, fun w hSw => ?hykm1⟩) (by assumption) ?rkm1
  case hykm1 => (try dsimp only at hSw); go_simp; (try with_reducible rfl)
  (try simp only [Act.put, List.setIfInBounds_toArray, List.set_cons_zero, List.set_cons_succ])
  refine wpAnyH_take (i := 1) (oi := ({ dst := some 7, op := Op.move (Operand.tmp 1), type := 424, pos := "wordlocks.go:78", after := #[], guard := none } : Oper)) (v := ?vkm2) rfl (by kernel_rfl) (by kernel_rfl) (by kernel_rfl) (fun _ _ _ h => h) (Or.inl ⟨by rfl, fun w hSw => ?hykm2⟩) (by assumption) ?rkm2
  case hykm2 => (try dsimp only at hSw); go_simp; (try with_reducible rfl)
  (try simp only [Act.put, List.setIfInBounds_toArray, List.set_cons_zero, List.set_cons_succ])
  refine wpAnyH_take (i := 2) (oi := ({ dst := some 8, op := Op.move (Operand.tmp 2), type := 24, pos := "wordlocks.go:78", after := #[], guard := none } : Oper)) (v := ?vkm3) rfl (by kernel_rfl) (by kernel_rfl) (by kernel_rfl) (fun _ _ _ h => h) (Or.inl ⟨by rfl, fun w hSw => ?hykm3⟩) (by assumption) ?rkm3
  case hykm3 => (try dsimp only at hSw); go_simp; (try with_reducible rfl)
  (try simp only [Act.put, List.setIfInBounds_toArray, List.set_cons_zero, List.set_cons_succ])
  refine wpAnyH_take (i := 3) (oi := ({ dst := some 9, op := Op.nilCheck (Operand.tmp 8), type := 0, pos := "wordlocks.go:78", after := #[{ on := 2, ground := Ground.data }], guard := none } : Oper)) (v := ?vkm4) rfl (by kernel_rfl) (by kernel_rfl) (by kernel_rfl) (fun _ _ _ h => h) (Or.inl ⟨by rfl, fun w hSw => ?hykm4⟩) (by assumption) ?rkm4
  case hykm4 => (try dsimp only at hSw); go_simp; (try with_reducible rfl)
  (try simp only [Act.put, List.setIfInBounds_toArray, List.set_cons_zero, List.set_cons_succ])
  refine wpAnyH_take (i := 4) (oi := ({ dst := some 10, op := Op.fieldAddr 47 (Operand.tmp 9) 0, type := 0, pos := "wordlocks.go:78", after := #[{ on := 3, ground := Ground.data }], guard := none } : Oper)) (v := ?vkm5) rfl (by kernel_rfl) (by kernel_rfl) (by kernel_rfl) (fun _ _ _ h => h) (Or.inl ⟨by rfl, fun w hSw => ?hykm5⟩) (by assumption) ?rkm5
  case hykm5 => (try dsimp only at hSw); go_simp; (try with_reducible rfl)
  (try simp only [Act.put, List.setIfInBounds_toArray, List.set_cons_zero, List.set_cons_succ])
  refine wpAnyH_take (i := 5) (oi := ({ dst := some 11, op := Op.load 39 (Operand.tmp 10), type := 39, pos := "wordlocks.go:78", after := #[{ on := 4, ground := Ground.data }], guard := none } : Oper)) (v := ?vkm6) rfl (by kernel_rfl) (by kernel_rfl) (by kernel_rfl) (fun _ _ _ h => h) (Or.inl ⟨by rfl, fun w hSw => ?hykm6⟩) (by assumption) ?rkm6
  case hykm6 => (try dsimp only at hSw); go_simp; (try with_reducible rfl)
  (try simp only [Act.put, List.setIfInBounds_toArray, List.set_cons_zero, List.set_cons_succ])
  refine wpAnyH_take (i := 6) (oi := ({ dst := some 12, op := Op.fieldAddr 433 (Operand.tmp 3) 1, type := 0, pos := "wordlocks.go:78", after := #[], guard := none } : Oper)) (v := ?vkm7) rfl (by kernel_rfl) (by kernel_rfl) (by kernel_rfl) (fun _ _ _ h => h) (Or.inl ⟨by rfl, fun w hSw => ?hykm7⟩) (by assumption) ?rkm7
  case hykm7 => (try dsimp only at hSw); go_simp; (try with_reducible rfl)
  (try simp only [Act.put, List.setIfInBounds_toArray, List.set_cons_zero, List.set_cons_succ])
  refine wpAnyH_take (i := 7) (oi := ({ dst := some 13, op := Op.load 35 (Operand.tmp 12), type := 35, pos := "wordlocks.go:78", after := #[{ on := 6, ground := Ground.data }], guard := none } : Oper)) (v := ?vkm8) rfl (by kernel_rfl) (by kernel_rfl) (by kernel_rfl) (fun _ _ _ h => h) (Or.inl ⟨by rfl, fun w hSw => ?hykm8⟩) (by assumption) ?rkm8
  case hykm8 => (try dsimp only at hSw); go_simp; (try with_reducible rfl)
  (try simp only [Act.put, List.setIfInBounds_toArray, List.set_cons_zero, List.set_cons_succ])
  refine wpAnyH_ready (rs := [8]) (by kernel_rfl) (by simp) ?_
  refine AllReadyH.cons (o := ({ dst := some 14, op := Op.call { callee := Callee.value (Operand.func 201), args := #[Operand.tmp 11, Operand.tmp 13], argTypes := #[39, 35] }, type := 23, pos := "wordlocks.go:78", after := #[{ on := 5, ground := Ground.data }, { on := 7, ground := Ground.data }], guard := none } : Oper)) rfl (fun Kq hKq => ?_) AllReadyH.nil
  go_simp
  (refine HC.out.mono ?_; rintro e w3 ⟨rfl, X3, h3g, hcB⟩; have h3 : Wl w0 w3 base WB (M.acc 1 K.a x) (r ++ [blockP Q (.cells #[.int .i64 (K.t : Int), .int .u32 (K.a : Int)] 433)]) j B K X3 := ⟨h3g, HA.out.hj⟩; have HTN := Lib.hid (HTT.out _ _ _ h3); have q3 := h3.pg.c.1; rw [hcB] at q3; have hl := h3.last HJ.out; have HCB := Lib.hid hcB)
  refine hKq.out _ _ ?_ (fun hHeld => ?_)
  · exact ⟨cell_row hl 0, cell_row hl 1, q3⟩
  clear hKq Kq
  (try simp only [Act.put, List.setIfInBounds_toArray, List.set_cons_zero, List.set_cons_succ])
  refine wpAnyH_ready (rs := [9]) (by kernel_rfl) (by simp) ?_
  refine AllReadyH.cons (o := ({ dst := some 15, op := Op.call { callee := Callee.value (Operand.func 299), args := #[Operand.tmp 6, Operand.tmp 7, Operand.tmp 14], argTypes := #[433, 424, 23] }, type := 0, pos := "wordlocks.go:78", after := #[{ on := 0, ground := Ground.data }, { on := 1, ground := Ground.data }, { on := 8, ground := Ground.data }, { on := 8, ground := Ground.chain }], guard := none } : Oper)) rfl (fun Kq hKq => ?_) AllReadyH.nil
  go_simp
  (refine HTN.out.mono ?_; rintro e w4 ⟨rfl, h4⟩; have q4 := h4.pg.c.1; rw [HCB.out] at q4; have hl4 := h4.last HJ.out)
  refine hKq.out _ _ ?_ (fun hHeld => ?_)
  · exact ⟨cell_row hl4 0, cell_row hl4 1, q4⟩
  clear hKq Kq
  (try simp only [Act.put, List.setIfInBounds_toArray, List.set_cons_zero, List.set_cons_succ])
  refine wpAnyH_done (by kernel_rfl) ?_ _
  have H4 := Lib.hid h4
  clear hHeld q3 hl q4 hl4 h3 h3g h4 hcB
  go_wp2_with fail
  go_end0
  exact ⟨rfl, X3, H4.out.dropB HJ.out⟩
set_option maxRecDepth 100000 in
set_option maxHeartbeats 4000000 in
theorem prepare_l (h : Wl w0 w base WB M r j B K X) (ok : LkOk M K) (hl : K.ln = 4) : Calls Tryz.prog 303 #[askV K.t K.a, Pw B, Pw WB] w fun e w' => e = .returned (.tuple #[]) ∧ Stepped w0 w' base WB M r j B K := by
  unfold Stepped
  rw [show stepM M K = _ from by simp only [stepM, hl]; rfl, show stepK M K = _ from by simp only [stepK, hl]; rfl]
  have hj := h.hj
  have hA := h.pushB (.cells #[.int .i64 (K.t : Int), .int .u32 (K.a : Int)] 433)
  have k0 := cell_row (heap_alloc_new w (.cells #[.int .i64 (K.t : Int), .int .u32 (K.a : Int)] 433)) 0; have k1 := cell_row (heap_alloc_new w (.cells #[.int .i64 (K.t : Int), .int .u32 (K.a : Int)] 433)) 1
  simp only [List.getElem?_toArray, List.getElem?_cons_zero, List.getElem?_cons_succ] at k0 k1
  obtain ⟨Q, hQ⟩ : ∃ Q, Q = w.heap.size := ⟨_, rfl⟩
  rw [← hQ] at hA k0 k1
  have HA := Lib.hid hA; have HJ := Lib.hid hj; have HQ := Lib.hid hQ
  obtain ⟨b0, hb0⟩ : ∃ x, x = S1.bitB K.st 0 := ⟨_, rfl⟩
  obtain ⟨b1, hb1⟩ : ∃ x, x = S1.bitB K.st 1 := ⟨_, rfl⟩
  obtain ⟨hd, hhd⟩ : ∃ x, x = S1.headN K.st := ⟨_, rfl⟩
  have HAS : Hid (∀ W, Calls Tryz.prog 198 #[.int .u64 (K.st : Int)] W fun e w' => e = .returned (.agg #[.bool b0, .bool b1, .int .i64 hd]) ∧ Below W.heap.size W w') := Lib.hid (fun W => by
    have := S1.as_any K.st ok.st W
    unfold S1.asV at this
    rw [← hb0, ← hb1, ← hhd] at this
    exact this)
  have HT := Lib.hid (fun W => word_any K.t ok.t W)
  have HC := Lib.hid ((hA.new (Below.refl _ _).drew).pg.prep ok.pn (i := 2 * K.t + 1) (by have := ok.t; omega))
  have hnt : S5.Num (K.t : Int) (some K.t) := S5.nm K.t ok.t
  have hnh := num_head K.st
  rw [← hhd] at hnh
  have HPU : Hid (∀ W X', Pg w0 W base WB (M.prep (2 * K.t + 1)) ((r ++ [blockP Q (.cells #[.int .i64 (K.t : Int), .int .u32 (K.a : Int)] 433)]).set j (lockP B K)) X' → Calls Tryz.prog 267 #[Pw X'.lB, .int .i64 (K.t : Int), .int .i64 hd] W fun e w' => e = .returned (.tuple #[]) ∧ ∃ X'', Pg w0 w' base WB ((M.prep (2 * K.t + 1)).link (S5.pushS (M.prep (2 * K.t + 1)).lk (some K.t) (hdO K.st))) ((r ++ [blockP Q (.cells #[.int .i64 (K.t : Int), .int .u32 (K.a : Int)] 433)]).set j (lockP B K)) X'' ∧ X''.lB = X'.lB) := Lib.hid (fun W X' hW => hW.push hnt hnh)
  have HH6 : Hid (K.ln ≠ 6) := Lib.hid (by omega)
  clear ok hl hb0 hb1 hhd hnt hnh
  clear h hj hQ
  go_enter Tryz.func303, Tryz.ntmps303
  go_upto_region 1 with (fail)
  rw [← HQ.out]
  generalize w.alloc (.cells #[.int .i64 (K.t : Int), .int .u32 (K.a : Int)] 433) = w1 at *
  have HF : Hid ((fun w' => w'.cell? ⟨Q, 0, none⟩ = some (.int .i64 (K.t : Int)) ∧ w'.cell? ⟨WB, 2, none⟩ = some (Pw X.pB)) w1.drew) := Lib.hid ⟨k0, HA.out.pg.c.2.1⟩
  clear hA
  refine wp_region_held_drew (S := fun w' => w'.cell? ⟨Q, 0, none⟩ = some (.int .i64 (K.t : Int)) ∧ w'.cell? ⟨WB, 2, none⟩ = some (Pw X.pB)) (by kernel_rfl) ?_ (fun hHeld => ?_)
  · exact HF.out
  refine wpAnyH_take (i := 0) (oi := ({ dst := some 6, op := Op.move (Operand.tmp 2), type := 24, pos := "wordlocks.go:83", after := #[], guard := none } : Oper)) (v := ?vpm1) rfl (by kernel_rfl) (by kernel_rfl) (by kernel_rfl) (fun _ _ _ h => h) (Or.inl ⟨by rfl, fun w hSw => ?hypm1⟩) (by assumption) ?rpm1
  case hypm1 => (try dsimp only at hSw); go_simp; (try with_reducible rfl)
  (try simp only [Act.put, List.setIfInBounds_toArray, List.set_cons_zero, List.set_cons_succ])
  refine wpAnyH_take (i := 1) (oi := ({ dst := some 7, op := Op.nilCheck (Operand.tmp 6), type := 0, pos := "wordlocks.go:83", after := #[{ on := 0, ground := Ground.data }], guard := none } : Oper)) (v := ?vpm2) rfl (by kernel_rfl) (by kernel_rfl) (by kernel_rfl) (fun _ _ _ h => h) (Or.inl ⟨by rfl, fun w hSw => ?hypm2⟩) (by assumption) ?rpm2
  case hypm2 => (try dsimp only at hSw); go_simp; (try with_reducible rfl)
  (try simp only [Act.put, List.setIfInBounds_toArray, List.set_cons_zero, List.set_cons_succ])
  refine wpAnyH_take (i := 2) (oi := ({ dst := some 8, op := Op.fieldAddr 47 (Operand.tmp 7) 2, type := 0, pos := "wordlocks.go:83", after := #[{ on := 1, ground := Ground.data }], guard := none } : Oper)) (v := ?vpm3) rfl (by kernel_rfl) (by kernel_rfl) (by kernel_rfl) (fun _ _ _ h => h) (Or.inl ⟨by rfl, fun w hSw => ?hypm3⟩) (by assumption) ?rpm3
  case hypm3 => (try dsimp only at hSw); go_simp; (try with_reducible rfl)
  (try simp only [Act.put, List.setIfInBounds_toArray, List.set_cons_zero, List.set_cons_succ])
  refine wpAnyH_take (i := 3) (oi := ({ dst := some 9, op := Op.load 41 (Operand.tmp 8), type := 41, pos := "wordlocks.go:83", after := #[{ on := 2, ground := Ground.data }], guard := none } : Oper)) (v := ?vpm4) rfl (by kernel_rfl) (by kernel_rfl) (by kernel_rfl) (fun _ _ _ h => h) (Or.inl ⟨by rfl, fun w hSw => ?hypm4⟩) (by assumption) ?rpm4
  case hypm4 => (try dsimp only at hSw); go_simp; (try with_reducible rfl)
  (try simp only [Act.put, List.setIfInBounds_toArray, List.set_cons_zero, List.set_cons_succ])
  refine wpAnyH_take (i := 4) (oi := ({ dst := some 10, op := Op.fieldAddr 433 (Operand.tmp 3) 0, type := 0, pos := "wordlocks.go:83", after := #[], guard := none } : Oper)) (v := ?vpm5) rfl (by kernel_rfl) (by kernel_rfl) (by kernel_rfl) (fun _ _ _ h => h) (Or.inl ⟨by rfl, fun w hSw => ?hypm5⟩) (by assumption) ?rpm5
  case hypm5 => (try dsimp only at hSw); go_simp; (try with_reducible rfl)
  (try simp only [Act.put, List.setIfInBounds_toArray, List.set_cons_zero, List.set_cons_succ])
  refine wpAnyH_take (i := 5) (oi := ({ dst := some 11, op := Op.load 3 (Operand.tmp 10), type := 3, pos := "wordlocks.go:83", after := #[{ on := 4, ground := Ground.data }], guard := none } : Oper)) (v := ?vpm6) rfl (by kernel_rfl) (by kernel_rfl) (by kernel_rfl) (fun _ _ _ h => h) (Or.inl ⟨by rfl, fun w hSw => ?hypm6⟩) (by assumption) ?rpm6
  case hypm6 => (try dsimp only at hSw); go_simp; (try with_reducible rfl)
  (try simp only [Act.put, List.setIfInBounds_toArray, List.set_cons_zero, List.set_cons_succ])
  refine wpAnyH_ready (rs := [6]) (by kernel_rfl) (by simp) ?_
  refine AllReadyH.cons (o := ({ dst := some 12, op := Op.call { callee := Callee.value (Operand.func 36), args := #[Operand.tmp 11], argTypes := #[3] }, type := 3, pos := "wordlocks.go:83", after := #[{ on := 5, ground := Ground.data }], guard := none } : Oper)) rfl (fun Kq hKq => ?_) AllReadyH.nil
  go_simp
  (refine (HT.out _).mono ?_; rintro e w2 ⟨rfl, rfl⟩)
  refine hKq.out _ _ ?_ (fun hHeld => ?_)
  · exact hHeld
  clear hKq Kq
  (try simp only [Act.put, List.setIfInBounds_toArray, List.set_cons_zero, List.set_cons_succ])
  refine wpAnyH_ready (rs := [7]) (by kernel_rfl) (by simp) ?_
  refine AllReadyH.cons (o := ({ dst := some 13, op := Op.call { callee := Callee.value (Operand.func 182), args := #[Operand.tmp 9, Operand.tmp 12], argTypes := #[41, 3] }, type := 0, pos := "wordlocks.go:83", after := #[{ on := 3, ground := Ground.data }, { on := 6, ground := Ground.data }, { on := 6, ground := Ground.chain }], guard := none } : Oper)) rfl (fun Kq hKq => ?_) AllReadyH.nil
  go_simp
  (refine HC.out.mono ?_; rintro e w3 ⟨rfl, X3, h3g, hpB⟩; have h3 : Wl w0 w3 base WB (M.prep (2 * K.t + 1)) (r ++ [blockP Q (.cells #[.int .i64 (K.t : Int), .int .u32 (K.a : Int)] 433)]) j B K X3 := ⟨h3g, HA.out.hj⟩; have q3 := h3.pg.c.2.1; rw [hpB] at q3; have hl := h3.last HJ.out)
  refine hKq.out _ _ ?_ (fun hHeld => ?_)
  · exact ⟨cell_row hl 0, q3⟩
  clear hKq Kq
  (try simp only [Act.put, List.setIfInBounds_toArray, List.set_cons_zero, List.set_cons_succ])
  refine wpAnyH_done (by kernel_rfl) ?_ _
  clear HF
  have HF : Hid ((fun w' => w'.cell? ⟨Q, 0, none⟩ = some (.int .i64 (K.t : Int)) ∧ w'.cell? ⟨WB, 3, none⟩ = some (Pw X3.lB) ∧ w'.cell? ⟨B, 1, none⟩ = some (.int .u64 (K.st : Int))) w3.drew) := Lib.hid ⟨cell_row hl 0, h3.pg.c.2.2.1, h3.b1⟩
  have H3 := Lib.hid h3
  have hfd := field_hd b0 b1 hd
  clear hHeld q3 hl h3 h3g hpB k0 k1
  go_upto_region 2 with (fail)
  refine wp_region_held_drew (S := fun w' => w'.cell? ⟨Q, 0, none⟩ = some (.int .i64 (K.t : Int)) ∧ w'.cell? ⟨WB, 3, none⟩ = some (Pw X3.lB) ∧ w'.cell? ⟨B, 1, none⟩ = some (.int .u64 (K.st : Int))) (by kernel_rfl) ?_ (fun hHeld => ?_)
  · exact HF.out
  refine wpAnyH_take (i := 0) (oi := ({ dst := some 14, op := Op.move (Operand.tmp 2), type := 24, pos := "wordlocks.go:84", after := #[], guard := none } : Oper)) (v := ?vqm1) rfl (by kernel_rfl) (by kernel_rfl) (by kernel_rfl) (fun _ _ _ h => h) (Or.inl ⟨by rfl, fun w hSw => ?hyqm1⟩) (by assumption) ?rqm1
  case hyqm1 => (try dsimp only at hSw); go_simp; (try with_reducible rfl)
  (try simp only [Act.put, List.setIfInBounds_toArray, List.set_cons_zero, List.set_cons_succ])
  refine wpAnyH_take (i := 1) (oi := ({ dst := some 15, op := Op.nilCheck (Operand.tmp 14), type := 0, pos := "wordlocks.go:84", after := #[{ on := 0, ground := Ground.data }], guard := none } : Oper)) (v := ?vqm2) rfl (by kernel_rfl) (by kernel_rfl) (by kernel_rfl) (fun _ _ _ h => h) (Or.inl ⟨by rfl, fun w hSw => ?hyqm2⟩) (by assumption) ?rqm2
  case hyqm2 => (try dsimp only at hSw); go_simp; (try with_reducible rfl)
  (try simp only [Act.put, List.setIfInBounds_toArray, List.set_cons_zero, List.set_cons_succ])
  refine wpAnyH_take (i := 2) (oi := ({ dst := some 16, op := Op.fieldAddr 47 (Operand.tmp 15) 3, type := 0, pos := "wordlocks.go:84", after := #[{ on := 1, ground := Ground.data }], guard := none } : Oper)) (v := ?vqm3) rfl (by kernel_rfl) (by kernel_rfl) (by kernel_rfl) (fun _ _ _ h => h) (Or.inl ⟨by rfl, fun w hSw => ?hyqm3⟩) (by assumption) ?rqm3
  case hyqm3 => (try dsimp only at hSw); go_simp; (try with_reducible rfl)
  (try simp only [Act.put, List.setIfInBounds_toArray, List.set_cons_zero, List.set_cons_succ])
  refine wpAnyH_take (i := 3) (oi := ({ dst := some 17, op := Op.load 42 (Operand.tmp 16), type := 42, pos := "wordlocks.go:84", after := #[{ on := 2, ground := Ground.data }], guard := none } : Oper)) (v := ?vqm4) rfl (by kernel_rfl) (by kernel_rfl) (by kernel_rfl) (fun _ _ _ h => h) (Or.inl ⟨by rfl, fun w hSw => ?hyqm4⟩) (by assumption) ?rqm4
  case hyqm4 => (try dsimp only at hSw); go_simp; (try with_reducible rfl)
  (try simp only [Act.put, List.setIfInBounds_toArray, List.set_cons_zero, List.set_cons_succ])
  refine wpAnyH_take (i := 4) (oi := ({ dst := some 18, op := Op.fieldAddr 433 (Operand.tmp 3) 0, type := 0, pos := "wordlocks.go:84", after := #[], guard := none } : Oper)) (v := ?vqm5) rfl (by kernel_rfl) (by kernel_rfl) (by kernel_rfl) (fun _ _ _ h => h) (Or.inl ⟨by rfl, fun w hSw => ?hyqm5⟩) (by assumption) ?rqm5
  case hyqm5 => (try dsimp only at hSw); go_simp; (try with_reducible rfl)
  (try simp only [Act.put, List.setIfInBounds_toArray, List.set_cons_zero, List.set_cons_succ])
  refine wpAnyH_take (i := 5) (oi := ({ dst := some 19, op := Op.load 3 (Operand.tmp 18), type := 3, pos := "wordlocks.go:84", after := #[{ on := 4, ground := Ground.data }], guard := none } : Oper)) (v := ?vqm6) rfl (by kernel_rfl) (by kernel_rfl) (by kernel_rfl) (fun _ _ _ h => h) (Or.inl ⟨by rfl, fun w hSw => ?hyqm6⟩) (by assumption) ?rqm6
  case hyqm6 => (try dsimp only at hSw); go_simp; (try with_reducible rfl)
  (try simp only [Act.put, List.setIfInBounds_toArray, List.set_cons_zero, List.set_cons_succ])
  refine wpAnyH_take (i := 6) (oi := ({ dst := some 20, op := Op.move (Operand.tmp 1), type := 424, pos := "wordlocks.go:84", after := #[], guard := none } : Oper)) (v := ?vqm7) rfl (by kernel_rfl) (by kernel_rfl) (by kernel_rfl) (fun _ _ _ h => h) (Or.inl ⟨by rfl, fun w hSw => ?hyqm7⟩) (by assumption) ?rqm7
  case hyqm7 => (try dsimp only at hSw); go_simp; (try with_reducible rfl)
  (try simp only [Act.put, List.setIfInBounds_toArray, List.set_cons_zero, List.set_cons_succ])
  refine wpAnyH_take (i := 7) (oi := ({ dst := some 21, op := Op.nilCheck (Operand.tmp 20), type := 0, pos := "wordlocks.go:84", after := #[{ on := 6, ground := Ground.data }], guard := none } : Oper)) (v := ?vqm8) rfl (by kernel_rfl) (by kernel_rfl) (by kernel_rfl) (fun _ _ _ h => h) (Or.inl ⟨by rfl, fun w hSw => ?hyqm8⟩) (by assumption) ?rqm8
  case hyqm8 => (try dsimp only at hSw); go_simp; (try with_reducible rfl)
  (try simp only [Act.put, List.setIfInBounds_toArray, List.set_cons_zero, List.set_cons_succ])
  refine wpAnyH_take (i := 8) (oi := ({ dst := some 22, op := Op.fieldAddr 431 (Operand.tmp 21) 1, type := 0, pos := "wordlocks.go:84", after := #[{ on := 7, ground := Ground.data }], guard := none } : Oper)) (v := ?vqm9) rfl (by kernel_rfl) (by kernel_rfl) (by kernel_rfl) (fun _ _ _ h => h) (Or.inl ⟨by rfl, fun w hSw => ?hyqm9⟩) (by assumption) ?rqm9
  case hyqm9 => (try dsimp only at hSw); go_simp; (try with_reducible rfl)
  (try simp only [Act.put, List.setIfInBounds_toArray, List.set_cons_zero, List.set_cons_succ])
  refine wpAnyH_take (i := 9) (oi := ({ dst := some 23, op := Op.load 23 (Operand.tmp 22), type := 23, pos := "wordlocks.go:84", after := #[{ on := 8, ground := Ground.data }], guard := none } : Oper)) (v := ?vqm10) rfl (by kernel_rfl) (by kernel_rfl) (by kernel_rfl) (fun _ _ _ h => h) (Or.inl ⟨by rfl, fun w hSw => ?hyqm10⟩) (by assumption) ?rqm10
  case hyqm10 => (try dsimp only at hSw); go_simp; (try with_reducible rfl)
  (try simp only [Act.put, List.setIfInBounds_toArray, List.set_cons_zero, List.set_cons_succ])
  refine wpAnyH_ready (rs := [10]) (by kernel_rfl) (by simp) ?_
  refine AllReadyH.cons (o := ({ dst := some 24, op := Op.call { callee := Callee.value (Operand.func 198), args := #[Operand.tmp 23], argTypes := #[23] }, type := 330, pos := "wordlocks.go:84", after := #[{ on := 9, ground := Ground.data }], guard := none } : Oper)) rfl (fun Kq hKq => ?_) AllReadyH.nil
  go_simp
  (refine (HAS.out _).mono ?_; rintro e w4 ⟨rfl, hb4⟩; have HPQ := Lib.hid (HPU.out w4 X3 ((H3.out.new (Below.refl _ _).drew).new hb4).pg))
  refine hKq.out _ _ ?_ (fun hHeld => ?_)
  · exact ⟨bcell hb4 hHeld.1, bcell hb4 hHeld.2.1, bcell hb4 hHeld.2.2⟩
  clear hKq Kq
  (try simp only [Act.put, List.setIfInBounds_toArray, List.set_cons_zero, List.set_cons_succ])
  refine wpAnyH_take (i := 11) (oi := ({ dst := some 25, op := Op.field 330 (Operand.tmp 24) 2, type := 3, pos := "wordlocks.go:84", after := #[{ on := 10, ground := Ground.data }], guard := none } : Oper)) (v := ?vqm11) rfl (by kernel_rfl) (by kernel_rfl) (by kernel_rfl) (fun _ _ _ h => h) (Or.inl ⟨by rfl, fun w hSw => ?hyqm11⟩) (by assumption) ?rqm11
  case hyqm11 => (try dsimp only at hSw); go_simp; (try with_reducible rfl)
  (try simp only [Act.put, List.setIfInBounds_toArray, List.set_cons_zero, List.set_cons_succ])
  refine wpAnyH_ready (rs := [12]) (by kernel_rfl) (by simp) ?_
  refine AllReadyH.cons (o := ({ dst := some 26, op := Op.call { callee := Callee.value (Operand.func 267), args := #[Operand.tmp 17, Operand.tmp 19, Operand.tmp 25], argTypes := #[42, 3, 3] }, type := 0, pos := "wordlocks.go:84", after := #[{ on := 3, ground := Ground.data }, { on := 5, ground := Ground.data }, { on := 11, ground := Ground.data }, { on := 10, ground := Ground.chain }], guard := none } : Oper)) rfl (fun Kq hKq => ?_) AllReadyH.nil
  go_simp
  (refine HPQ.out.mono ?_; rintro e w5 ⟨rfl, X5, h5g, hlB⟩; have h5 : Wl w0 w5 base WB ((M.prep (2 * K.t + 1)).link (S5.pushS (M.prep (2 * K.t + 1)).lk (some K.t) (hdO K.st))) (r ++ [blockP Q (.cells #[.int .i64 (K.t : Int), .int .u32 (K.a : Int)] 433)]) j B K X5 := ⟨h5g, HA.out.hj⟩; have q5 := h5.pg.c.2.2.1; rw [hlB] at q5; have hl5 := h5.last HJ.out; have b5 := h5.b1)
  refine hKq.out _ _ ?_ (fun hHeld => ?_)
  · exact ⟨cell_row hl5 0, q5, b5⟩
  clear hKq Kq
  (try simp only [Act.put, List.setIfInBounds_toArray, List.set_cons_zero, List.set_cons_succ])
  refine wpAnyH_done (by kernel_rfl) ?_ _
  have k0 := cell_row hl5 0; have k1 := cell_row hl5 1
  simp only [List.getElem?_toArray, List.getElem?_cons_zero, List.getElem?_cons_succ] at k0 k1
  have c0 := h5.b0; have z0 := h5.fz 0
  have H5 := Lib.hid h5
  clear hHeld q5 hl5 b5 h5 h5g hlB hb4 HF
  go_wp2_with fail
  go_end0
  exact ⟨rfl, X5, (H5.out.next HH6.out 5 (by decide) _ rfl).dropB HJ.out⟩
set_option maxRecDepth 100000 in
set_option maxHeartbeats 4000000 in
theorem park_l (h : Wl w0 w base WB M r j B K X) (ok : LkOk M K) (hl : K.ln = 6) : Calls Tryz.prog 305 #[askV K.t K.a, Pw B, Pw WB] w fun e w' => e = .returned (.tuple #[]) ∧ Stepped w0 w' base WB M r j B K := by
  unfold Stepped
  rw [show stepM M K = _ from by simp only [stepM, hl]; rfl, show stepK M K = _ from by simp only [stepK, hl]; rfl]
  have hj := h.hj
  have hA := h.pushB (.cells #[.int .i64 (K.t : Int), .int .u32 (K.a : Int)] 433)
  have k0 := cell_row (heap_alloc_new w (.cells #[.int .i64 (K.t : Int), .int .u32 (K.a : Int)] 433)) 0; have k1 := cell_row (heap_alloc_new w (.cells #[.int .i64 (K.t : Int), .int .u32 (K.a : Int)] 433)) 1
  simp only [List.getElem?_toArray, List.getElem?_cons_zero, List.getElem?_cons_succ] at k0 k1
  obtain ⟨Q, hQ⟩ : ∃ Q, Q = w.heap.size := ⟨_, rfl⟩
  rw [← hQ] at hA k0 k1
  have HA := Lib.hid hA; have HJ := Lib.hid hj; have HQ := Lib.hid hQ
  obtain ⟨g, hg⟩ : ∃ g, g = (M.pf (2 * K.t + 1)).p := ⟨_, rfl⟩
  have HT := Lib.hid (fun W => word_any K.t ok.t W)
  have HC := Lib.hid ((hA.new (Below.refl _ _).drew).pg.park ok.pn (i := 2 * K.t + 1) (by have := ok.t; omega))
  rw [← hg] at HC ⊢
  have H6 := Lib.hid hl
  clear ok hl hg
  clear h hj hQ
  go_enter Tryz.func305, Tryz.ntmps305
  go_upto_region 1 with (fail)
  rw [← HQ.out]
  generalize w.alloc (.cells #[.int .i64 (K.t : Int), .int .u32 (K.a : Int)] 433) = w1 at *
  have HF : Hid ((fun w' => w'.cell? ⟨Q, 0, none⟩ = some (.int .i64 (K.t : Int)) ∧ w'.cell? ⟨WB, 2, none⟩ = some (Pw X.pB)) w1.drew) := Lib.hid ⟨k0, HA.out.pg.c.2.1⟩
  clear hA
  cases g
  · refine wp_region_held_drew (S := fun w' => w'.cell? ⟨Q, 0, none⟩ = some (.int .i64 (K.t : Int)) ∧ w'.cell? ⟨WB, 2, none⟩ = some (Pw X.pB)) (by kernel_rfl) ?_ (fun hHeld => ?_)
    · exact HF.out
    refine wpAnyH_take (i := 0) (oi := ({ dst := some 6, op := Op.move (Operand.tmp 2), type := 24, pos := "wordlocks.go:99", after := #[], guard := none } : Oper)) (v := ?vum1) rfl (by kernel_rfl) (by kernel_rfl) (by kernel_rfl) (fun _ _ _ h => h) (Or.inl ⟨by rfl, fun w hSw => ?hyum1⟩) (by assumption) ?rum1
    case hyum1 => (try dsimp only at hSw); go_simp; (try with_reducible rfl)
    (try simp only [Act.put, List.setIfInBounds_toArray, List.set_cons_zero, List.set_cons_succ])
    refine wpAnyH_take (i := 1) (oi := ({ dst := some 7, op := Op.nilCheck (Operand.tmp 6), type := 0, pos := "wordlocks.go:99", after := #[{ on := 0, ground := Ground.data }], guard := none } : Oper)) (v := ?vum2) rfl (by kernel_rfl) (by kernel_rfl) (by kernel_rfl) (fun _ _ _ h => h) (Or.inl ⟨by rfl, fun w hSw => ?hyum2⟩) (by assumption) ?rum2
    case hyum2 => (try dsimp only at hSw); go_simp; (try with_reducible rfl)
    (try simp only [Act.put, List.setIfInBounds_toArray, List.set_cons_zero, List.set_cons_succ])
    refine wpAnyH_take (i := 2) (oi := ({ dst := some 8, op := Op.fieldAddr 47 (Operand.tmp 7) 2, type := 0, pos := "wordlocks.go:99", after := #[{ on := 1, ground := Ground.data }], guard := none } : Oper)) (v := ?vum3) rfl (by kernel_rfl) (by kernel_rfl) (by kernel_rfl) (fun _ _ _ h => h) (Or.inl ⟨by rfl, fun w hSw => ?hyum3⟩) (by assumption) ?rum3
    case hyum3 => (try dsimp only at hSw); go_simp; (try with_reducible rfl)
    (try simp only [Act.put, List.setIfInBounds_toArray, List.set_cons_zero, List.set_cons_succ])
    refine wpAnyH_take (i := 3) (oi := ({ dst := some 9, op := Op.load 41 (Operand.tmp 8), type := 41, pos := "wordlocks.go:99", after := #[{ on := 2, ground := Ground.data }], guard := none } : Oper)) (v := ?vum4) rfl (by kernel_rfl) (by kernel_rfl) (by kernel_rfl) (fun _ _ _ h => h) (Or.inl ⟨by rfl, fun w hSw => ?hyum4⟩) (by assumption) ?rum4
    case hyum4 => (try dsimp only at hSw); go_simp; (try with_reducible rfl)
    (try simp only [Act.put, List.setIfInBounds_toArray, List.set_cons_zero, List.set_cons_succ])
    refine wpAnyH_take (i := 4) (oi := ({ dst := some 10, op := Op.fieldAddr 433 (Operand.tmp 3) 0, type := 0, pos := "wordlocks.go:99", after := #[], guard := none } : Oper)) (v := ?vum5) rfl (by kernel_rfl) (by kernel_rfl) (by kernel_rfl) (fun _ _ _ h => h) (Or.inl ⟨by rfl, fun w hSw => ?hyum5⟩) (by assumption) ?rum5
    case hyum5 => (try dsimp only at hSw); go_simp; (try with_reducible rfl)
    (try simp only [Act.put, List.setIfInBounds_toArray, List.set_cons_zero, List.set_cons_succ])
    refine wpAnyH_take (i := 5) (oi := ({ dst := some 11, op := Op.load 3 (Operand.tmp 10), type := 3, pos := "wordlocks.go:99", after := #[{ on := 4, ground := Ground.data }], guard := none } : Oper)) (v := ?vum6) rfl (by kernel_rfl) (by kernel_rfl) (by kernel_rfl) (fun _ _ _ h => h) (Or.inl ⟨by rfl, fun w hSw => ?hyum6⟩) (by assumption) ?rum6
    case hyum6 => (try dsimp only at hSw); go_simp; (try with_reducible rfl)
    (try simp only [Act.put, List.setIfInBounds_toArray, List.set_cons_zero, List.set_cons_succ])
    refine wpAnyH_ready (rs := [6]) (by kernel_rfl) (by simp) ?_
    refine AllReadyH.cons (o := ({ dst := some 12, op := Op.call { callee := Callee.value (Operand.func 36), args := #[Operand.tmp 11], argTypes := #[3] }, type := 3, pos := "wordlocks.go:99", after := #[{ on := 5, ground := Ground.data }], guard := none } : Oper)) rfl (fun Kq hKq => ?_) AllReadyH.nil
    go_simp
    (refine (HT.out _).mono ?_; rintro e w2 ⟨rfl, rfl⟩)
    refine hKq.out _ _ ?_ (fun hHeld => ?_)
    · exact hHeld
    clear hKq Kq
    (try simp only [Act.put, List.setIfInBounds_toArray, List.set_cons_zero, List.set_cons_succ])
    refine wpAnyH_ready (rs := [7]) (by kernel_rfl) (by simp) ?_
    refine AllReadyH.cons (o := ({ dst := some 13, op := Op.call { callee := Callee.value (Operand.func 282), args := #[Operand.tmp 9, Operand.tmp 12], argTypes := #[41, 3] }, type := 382, pos := "wordlocks.go:99", after := #[{ on := 3, ground := Ground.data }, { on := 6, ground := Ground.data }, { on := 6, ground := Ground.chain }], guard := none } : Oper)) rfl (fun Kq hKq => ?_) AllReadyH.nil
    go_simp
    (refine HC.out.mono ?_; rintro e w3 ⟨rfl, X3, h3g, hpB⟩; have h3 : Wl w0 w3 base WB (M.park (2 * K.t + 1)) (r ++ [blockP Q (.cells #[.int .i64 (K.t : Int), .int .u32 (K.a : Int)] 433)]) j B K X3 := ⟨h3g, HA.out.hj⟩; have q3 := h3.pg.c.2.1; rw [hpB] at q3; have hl := h3.last HJ.out)
    refine hKq.out _ _ ?_ (fun hHeld => ?_)
    · exact ⟨cell_row hl 0, q3⟩
    clear hKq Kq
    (try simp only [Act.put, List.setIfInBounds_toArray, List.set_cons_zero, List.set_cons_succ])
    refine wpAnyH_take (i := 8) (oi := ({ dst := some 14, op := Op.binOp BinOp.neq 382 (Operand.tmp 13) (Operand.const (Value.int IntKind.u8 1)) 382, type := 4, pos := "wordlocks.go:99", after := #[{ on := 7, ground := Ground.data }], guard := none } : Oper)) (v := ?vum7) rfl (by kernel_rfl) (by kernel_rfl) (by kernel_rfl) (fun _ _ _ h => h) (Or.inl ⟨by rfl, fun w hSw => ?hyum7⟩) (by assumption) ?rum7
    case hyum7 => (try dsimp only at hSw); go_simp; (try with_reducible rfl)
    (try simp only [Act.put, List.setIfInBounds_toArray, List.set_cons_zero, List.set_cons_succ])
    refine wpAnyH_done (by kernel_rfl) ?_ _
    have H3 := Lib.hid h3
    clear hHeld q3 hl h3 h3g hpB HF k0 k1
    go_wp2_with fail
    (try simp only [Exit.inBlock, Exit.then])
    refine bodyPost_ret (results_none rfl _ _ _) rfl ⟨rfl, X3, H3.out.dropB HJ.out⟩
  · refine wp_region_held_drew (S := fun w' => w'.cell? ⟨Q, 0, none⟩ = some (.int .i64 (K.t : Int)) ∧ w'.cell? ⟨WB, 2, none⟩ = some (Pw X.pB)) (by kernel_rfl) ?_ (fun hHeld => ?_)
    · exact HF.out
    refine wpAnyH_take (i := 0) (oi := ({ dst := some 6, op := Op.move (Operand.tmp 2), type := 24, pos := "wordlocks.go:99", after := #[], guard := none } : Oper)) (v := ?vvm1) rfl (by kernel_rfl) (by kernel_rfl) (by kernel_rfl) (fun _ _ _ h => h) (Or.inl ⟨by rfl, fun w hSw => ?hyvm1⟩) (by assumption) ?rvm1
    case hyvm1 => (try dsimp only at hSw); go_simp; (try with_reducible rfl)
    (try simp only [Act.put, List.setIfInBounds_toArray, List.set_cons_zero, List.set_cons_succ])
    refine wpAnyH_take (i := 1) (oi := ({ dst := some 7, op := Op.nilCheck (Operand.tmp 6), type := 0, pos := "wordlocks.go:99", after := #[{ on := 0, ground := Ground.data }], guard := none } : Oper)) (v := ?vvm2) rfl (by kernel_rfl) (by kernel_rfl) (by kernel_rfl) (fun _ _ _ h => h) (Or.inl ⟨by rfl, fun w hSw => ?hyvm2⟩) (by assumption) ?rvm2
    case hyvm2 => (try dsimp only at hSw); go_simp; (try with_reducible rfl)
    (try simp only [Act.put, List.setIfInBounds_toArray, List.set_cons_zero, List.set_cons_succ])
    refine wpAnyH_take (i := 2) (oi := ({ dst := some 8, op := Op.fieldAddr 47 (Operand.tmp 7) 2, type := 0, pos := "wordlocks.go:99", after := #[{ on := 1, ground := Ground.data }], guard := none } : Oper)) (v := ?vvm3) rfl (by kernel_rfl) (by kernel_rfl) (by kernel_rfl) (fun _ _ _ h => h) (Or.inl ⟨by rfl, fun w hSw => ?hyvm3⟩) (by assumption) ?rvm3
    case hyvm3 => (try dsimp only at hSw); go_simp; (try with_reducible rfl)
    (try simp only [Act.put, List.setIfInBounds_toArray, List.set_cons_zero, List.set_cons_succ])
    refine wpAnyH_take (i := 3) (oi := ({ dst := some 9, op := Op.load 41 (Operand.tmp 8), type := 41, pos := "wordlocks.go:99", after := #[{ on := 2, ground := Ground.data }], guard := none } : Oper)) (v := ?vvm4) rfl (by kernel_rfl) (by kernel_rfl) (by kernel_rfl) (fun _ _ _ h => h) (Or.inl ⟨by rfl, fun w hSw => ?hyvm4⟩) (by assumption) ?rvm4
    case hyvm4 => (try dsimp only at hSw); go_simp; (try with_reducible rfl)
    (try simp only [Act.put, List.setIfInBounds_toArray, List.set_cons_zero, List.set_cons_succ])
    refine wpAnyH_take (i := 4) (oi := ({ dst := some 10, op := Op.fieldAddr 433 (Operand.tmp 3) 0, type := 0, pos := "wordlocks.go:99", after := #[], guard := none } : Oper)) (v := ?vvm5) rfl (by kernel_rfl) (by kernel_rfl) (by kernel_rfl) (fun _ _ _ h => h) (Or.inl ⟨by rfl, fun w hSw => ?hyvm5⟩) (by assumption) ?rvm5
    case hyvm5 => (try dsimp only at hSw); go_simp; (try with_reducible rfl)
    (try simp only [Act.put, List.setIfInBounds_toArray, List.set_cons_zero, List.set_cons_succ])
    refine wpAnyH_take (i := 5) (oi := ({ dst := some 11, op := Op.load 3 (Operand.tmp 10), type := 3, pos := "wordlocks.go:99", after := #[{ on := 4, ground := Ground.data }], guard := none } : Oper)) (v := ?vvm6) rfl (by kernel_rfl) (by kernel_rfl) (by kernel_rfl) (fun _ _ _ h => h) (Or.inl ⟨by rfl, fun w hSw => ?hyvm6⟩) (by assumption) ?rvm6
    case hyvm6 => (try dsimp only at hSw); go_simp; (try with_reducible rfl)
    (try simp only [Act.put, List.setIfInBounds_toArray, List.set_cons_zero, List.set_cons_succ])
    refine wpAnyH_ready (rs := [6]) (by kernel_rfl) (by simp) ?_
    refine AllReadyH.cons (o := ({ dst := some 12, op := Op.call { callee := Callee.value (Operand.func 36), args := #[Operand.tmp 11], argTypes := #[3] }, type := 3, pos := "wordlocks.go:99", after := #[{ on := 5, ground := Ground.data }], guard := none } : Oper)) rfl (fun Kq hKq => ?_) AllReadyH.nil
    go_simp
    (refine (HT.out _).mono ?_; rintro e w2 ⟨rfl, rfl⟩)
    refine hKq.out _ _ ?_ (fun hHeld => ?_)
    · exact hHeld
    clear hKq Kq
    (try simp only [Act.put, List.setIfInBounds_toArray, List.set_cons_zero, List.set_cons_succ])
    refine wpAnyH_ready (rs := [7]) (by kernel_rfl) (by simp) ?_
    refine AllReadyH.cons (o := ({ dst := some 13, op := Op.call { callee := Callee.value (Operand.func 282), args := #[Operand.tmp 9, Operand.tmp 12], argTypes := #[41, 3] }, type := 382, pos := "wordlocks.go:99", after := #[{ on := 3, ground := Ground.data }, { on := 6, ground := Ground.data }, { on := 6, ground := Ground.chain }], guard := none } : Oper)) rfl (fun Kq hKq => ?_) AllReadyH.nil
    go_simp
    (refine HC.out.mono ?_; rintro e w3 ⟨rfl, X3, h3g, hpB⟩; have h3 : Wl w0 w3 base WB (M.park (2 * K.t + 1)) (r ++ [blockP Q (.cells #[.int .i64 (K.t : Int), .int .u32 (K.a : Int)] 433)]) j B K X3 := ⟨h3g, HA.out.hj⟩; have q3 := h3.pg.c.2.1; rw [hpB] at q3; have hl := h3.last HJ.out)
    refine hKq.out _ _ ?_ (fun hHeld => ?_)
    · exact ⟨cell_row hl 0, q3⟩
    clear hKq Kq
    (try simp only [Act.put, List.setIfInBounds_toArray, List.set_cons_zero, List.set_cons_succ])
    refine wpAnyH_take (i := 8) (oi := ({ dst := some 14, op := Op.binOp BinOp.neq 382 (Operand.tmp 13) (Operand.const (Value.int IntKind.u8 1)) 382, type := 4, pos := "wordlocks.go:99", after := #[{ on := 7, ground := Ground.data }], guard := none } : Oper)) (v := ?vvm7) rfl (by kernel_rfl) (by kernel_rfl) (by kernel_rfl) (fun _ _ _ h => h) (Or.inl ⟨by rfl, fun w hSw => ?hyvm7⟩) (by assumption) ?rvm7
    case hyvm7 => (try dsimp only at hSw); go_simp; (try with_reducible rfl)
    (try simp only [Act.put, List.setIfInBounds_toArray, List.set_cons_zero, List.set_cons_succ])
    refine wpAnyH_done (by kernel_rfl) ?_ _
    have HBG := Lib.hid (begin_l h3)
    clear hHeld q3 hl h3 h3g hpB HF k0 k1
    go_upto_region 3 with (go_at_call 297; refine HBG.out.mono ?_; rintro e w4 ⟨rfl, h4⟩)
    have hl := h4.last HJ.out
    have k0 := cell_row hl 0; have k1 := cell_row hl 1
    simp only [List.getElem?_toArray, List.getElem?_cons_zero, List.getElem?_cons_succ] at k0 k1
    have c0 := h4.b0; have z0 := h4.fz 0; have c3 := h4.b3; have z3 := h4.fz 3
    have H4 := Lib.hid h4
    clear hl h4 HBG
    go_wp2_with fail
    go_end0
    exact ⟨rfl, X3, (H4.out.next2 3 _ rfl false rfl).dropB HJ.out⟩
end
end Go.Proofs.YtjppncglkijbjaaGreatDoor.S13
