/- Texts of this seat, one behind the other. -/
import Derived.Test.YtjppncglkijbjaaGreatDoorB21
set_option linter.unusedVariables false
set_option linter.unusedSimpArgs false
namespace Go.Proofs.YtjppncglkijbjaaGreatDoor.S14
open Go.Proofs.YtjppncglkijbjaaGreatDoor Go.Proofs.YtjppncglkijbjaaGreatDoor.S11 Go.Proofs.YtjppncglkijbjaaGreatDoor.S12 Go.Proofs.YtjppncglkijbjaaGreatDoor.S13
open Go.RowKit

section
variable {w0 w w' : World} {base WB : Nat} {M : Sd} {r : List Part} {j B : Nat} {K : Fr} {X : Wm}
theorem Wf.held {Q cb : Nat} {l2 q2 : Bool} {h2 : Int} (h : Wf w0 w base WB M (r ++ [blockP Q (.cells #[.bool l2, .bool q2, .int .i64 h2] 330)]) j B K X) (hj : j < r.length) (hc : X.cB = cb) :
    w.cell? ⟨WB, 0, none⟩ = some (Pw cb) ∧ w.cell? ⟨B, 1, none⟩ = some (.int .u32 (K.a : Int)) ∧ w.cell? ⟨B, 2, none⟩ = some (.bool K.l) ∧ w.cell? ⟨B, 3, none⟩ = some (.bool K.q) ∧ w.cell? ⟨B, 4, none⟩ = some (.int .i64 K.h) ∧ w.cell? ⟨Q, 0, none⟩ = some (.bool l2) ∧ w.cell? ⟨Q, 1, none⟩ = some (.bool q2) ∧ w.cell? ⟨Q, 2, none⟩ = some (.int .i64 h2) := by
  have hl := h.last hj
  subst hc
  exact ⟨h.pg.c.1, h.b1, h.b2, h.b3, h.b4, cell_row hl 0, cell_row hl 1, cell_row hl 2⟩
def Fr.cas (K : Fr) (x was : Nat) (l2 q2 : Bool) (h2 : Int) : Fr := if x = was then { K with l := l2, q := q2, h := h2 } else { K with l := S1.bitB x 0, q := S1.bitB x 1, h := S1.headN x }
set_option maxRecDepth 100000 in
set_option maxHeartbeats 4000000 in
theorem swapped_f (h : Wf w0 w base WB M r j B K X) (ha : K.a < 4294967296) (hn : M.n ≤ 1000000000) (hi : S1.isHead K.h) {was : Nat} (hw : S1.putU K.l K.q K.h = was) {l2 q2 : Bool} {h2 : Int} (hi2 : S1.isHead h2) :
    Calls Tryz.prog 202 #[Pw B, Pw WB, .agg #[.bool l2, .bool q2, .int .i64 h2]] w fun e w' => e = .returned (.bool (decide (S2.look M.L K.a = was))) ∧ ∃ X', Wf w0 w' base WB (M.acc 3 K.a (S2.casV (S2.look M.L K.a) was (S1.putU l2 q2 h2))) r j B (K.cas (S2.look M.L K.a) was l2 q2 h2) X' := by
  have hj := h.hj
  have hA := h.pushB (.cells #[.bool l2, .bool q2, .int .i64 h2] 330)
  obtain ⟨Q, hQ⟩ : ∃ Q, Q = w.heap.size := ⟨_, rfl⟩
  rw [← hQ] at hA
  have HA := Lib.hid hA; have HJ := Lib.hid hj; have HQ := Lib.hid hQ
  obtain ⟨cb, hcb⟩ : ∃ cb, X.cB = cb := ⟨_, rfl⟩
  have HCB := Lib.hid hcb
  have HPA := Lib.hid (fun W => S1.putU_any K.l K.q K.h hi W)
  have HPB := Lib.hid (fun W => S1.putU_any l2 q2 h2 hi2 W)
  obtain ⟨x, hx⟩ : ∃ x, x = S2.look M.L K.a := ⟨_, rfl⟩
  have hxl : x < 18446744073709551616 := by rw [hx]; exact h.look K.a
  have HAS := Lib.hid (fun W => S1.as_any x hxl W)
  obtain ⟨is, his⟩ : ∃ is, is = S1.putU l2 q2 h2 := ⟨_, rfl⟩
  have hcs : ∀ W X', Wf w0 W base WB M (r ++ [blockP Q (.cells #[.bool l2, .bool q2, .int .i64 h2] 330)]) j B K X' → X'.cB = cb → Calls Tryz.prog 226 #[Pw cb, .int .u32 (K.a : Int), .int .u64 (was : Int), .int .u64 (is : Int)] W fun e w' => e = .returned (.tuple #[.int .u64 (x : Int), .bool (decide (x = was))]) ∧ ∃ X5, Wf w0 w' base WB (M.acc 3 K.a (S2.casV x was is)) (r ++ [blockP Q (.cells #[.bool l2, .bool q2, .int .i64 h2] 330)]) j B K X5 ∧ X5.cB = cb := fun W X' hW hc => by
    subst hc
    rw [hx]
    refine (hW.pg.cas ha (by rw [his]; exact S1.putU_lt _ _ _) hn (u := was)).mono ?_
    rintro e w' ⟨rfl, X5, h5, hcb5⟩
    exact ⟨rfl, X5, ⟨h5, hW.hj⟩, hcb5⟩
  have HCS := Lib.hid hcs
  rw [hw] at HPA
  rw [← his] at HPB
  rw [← hx, ← his]
  clear h hj hA hQ hcb hi hi2 hw hx hxl his hcs ha hn
  go_enter Tryz.func202, Tryz.ntmps202
  go_upto_region 1 with (fail)
  rw [← HQ.out]
  generalize w.alloc (.cells #[.bool l2, .bool q2, .int .i64 h2] 330) = w1 at *
  refine wp_region_held_drew (S := fun w' => w'.cell? ⟨WB, 0, none⟩ = some (Pw cb) ∧ w'.cell? ⟨B, 1, none⟩ = some (.int .u32 (K.a : Int)) ∧ w'.cell? ⟨B, 2, none⟩ = some (.bool K.l) ∧ w'.cell? ⟨B, 3, none⟩ = some (.bool K.q) ∧ w'.cell? ⟨B, 4, none⟩ = some (.int .i64 K.h) ∧ w'.cell? ⟨Q, 0, none⟩ = some (.bool l2) ∧ w'.cell? ⟨Q, 1, none⟩ = some (.bool q2) ∧ w'.cell? ⟨Q, 2, none⟩ = some (.int .i64 h2)) (by kernel_rfl) ?_ (fun hHeld => ?_)
  · exact (HA.out.new (Below.refl _ _).drew).held HJ.out HCB.out
  refine wpAnyH_take (i := 0) (oi := ({ dst := some 10, op := Op.move (Operand.tmp 1), type := 24, pos := "wordfrees.go:122", after := #[], guard := none } : Oper)) (v := ?vsm1) rfl (by kernel_rfl) (by kernel_rfl) (by kernel_rfl) (fun _ _ _ h => h) (Or.inl ⟨by rfl, fun w hSw => ?hysm1⟩) (by assumption) ?rsm1
  case hysm1 => (try dsimp only at hSw); go_simp; (try with_reducible rfl)
  (try simp only [Act.put, List.setIfInBounds_toArray, List.set_cons_zero, List.set_cons_succ])
  refine wpAnyH_take (i := 1) (oi := ({ dst := some 11, op := Op.nilCheck (Operand.tmp 10), type := 0, pos := "wordfrees.go:122", after := #[{ on := 0, ground := Ground.data }], guard := none } : Oper)) (v := ?vsm2) rfl (by kernel_rfl) (by kernel_rfl) (by kernel_rfl) (fun _ _ _ h => h) (Or.inl ⟨by rfl, fun w hSw => ?hysm2⟩) (by assumption) ?rsm2
  case hysm2 => (try dsimp only at hSw); go_simp; (try with_reducible rfl)
  (try simp only [Act.put, List.setIfInBounds_toArray, List.set_cons_zero, List.set_cons_succ])
  refine wpAnyH_take (i := 2) (oi := ({ dst := some 12, op := Op.fieldAddr 47 (Operand.tmp 11) 0, type := 0, pos := "wordfrees.go:122", after := #[{ on := 1, ground := Ground.data }], guard := none } : Oper)) (v := ?vsm3) rfl (by kernel_rfl) (by kernel_rfl) (by kernel_rfl) (fun _ _ _ h => h) (Or.inl ⟨by rfl, fun w hSw => ?hysm3⟩) (by assumption) ?rsm3
  case hysm3 => (try dsimp only at hSw); go_simp; (try with_reducible rfl)
  (try simp only [Act.put, List.setIfInBounds_toArray, List.set_cons_zero, List.set_cons_succ])
  refine wpAnyH_take (i := 3) (oi := ({ dst := some 13, op := Op.load 39 (Operand.tmp 12), type := 39, pos := "wordfrees.go:122", after := #[{ on := 2, ground := Ground.data }], guard := none } : Oper)) (v := ?vsm4) rfl (by kernel_rfl) (by kernel_rfl) (by kernel_rfl) (fun _ _ _ h => h) (Or.inl ⟨by rfl, fun w hSw => ?hysm4⟩) (by assumption) ?rsm4
  case hysm4 => (try dsimp only at hSw); go_simp; (try with_reducible rfl)
  (try simp only [Act.put, List.setIfInBounds_toArray, List.set_cons_zero, List.set_cons_succ])
  refine wpAnyH_take (i := 4) (oi := ({ dst := some 14, op := Op.move (Operand.tmp 0), type := 73, pos := "wordfrees.go:122", after := #[], guard := none } : Oper)) (v := ?vsm5) rfl (by kernel_rfl) (by kernel_rfl) (by kernel_rfl) (fun _ _ _ h => h) (Or.inl ⟨by rfl, fun w hSw => ?hysm5⟩) (by assumption) ?rsm5
  case hysm5 => (try dsimp only at hSw); go_simp; (try with_reducible rfl)
  (try simp only [Act.put, List.setIfInBounds_toArray, List.set_cons_zero, List.set_cons_succ])
  refine wpAnyH_take (i := 5) (oi := ({ dst := some 15, op := Op.nilCheck (Operand.tmp 14), type := 0, pos := "wordfrees.go:122", after := #[{ on := 4, ground := Ground.data }], guard := none } : Oper)) (v := ?vsm6) rfl (by kernel_rfl) (by kernel_rfl) (by kernel_rfl) (fun _ _ _ h => h) (Or.inl ⟨by rfl, fun w hSw => ?hysm6⟩) (by assumption) ?rsm6
  case hysm6 => (try dsimp only at hSw); go_simp; (try with_reducible rfl)
  (try simp only [Act.put, List.setIfInBounds_toArray, List.set_cons_zero, List.set_cons_succ])
  refine wpAnyH_take (i := 6) (oi := ({ dst := some 16, op := Op.fieldAddr 334 (Operand.tmp 15) 1, type := 0, pos := "wordfrees.go:122", after := #[{ on := 5, ground := Ground.data }], guard := none } : Oper)) (v := ?vsm7) rfl (by kernel_rfl) (by kernel_rfl) (by kernel_rfl) (fun _ _ _ h => h) (Or.inl ⟨by rfl, fun w hSw => ?hysm7⟩) (by assumption) ?rsm7
  case hysm7 => (try dsimp only at hSw); go_simp; (try with_reducible rfl)
  (try simp only [Act.put, List.setIfInBounds_toArray, List.set_cons_zero, List.set_cons_succ])
  refine wpAnyH_take (i := 7) (oi := ({ dst := some 17, op := Op.load 35 (Operand.tmp 16), type := 35, pos := "wordfrees.go:122", after := #[{ on := 6, ground := Ground.data }], guard := none } : Oper)) (v := ?vsm8) rfl (by kernel_rfl) (by kernel_rfl) (by kernel_rfl) (fun _ _ _ h => h) (Or.inl ⟨by rfl, fun w hSw => ?hysm8⟩) (by assumption) ?rsm8
  case hysm8 => (try dsimp only at hSw); go_simp; (try with_reducible rfl)
  (try simp only [Act.put, List.setIfInBounds_toArray, List.set_cons_zero, List.set_cons_succ])
  refine wpAnyH_take (i := 8) (oi := ({ dst := some 18, op := Op.move (Operand.tmp 0), type := 73, pos := "wordfrees.go:122", after := #[], guard := none } : Oper)) (v := ?vsm9) rfl (by kernel_rfl) (by kernel_rfl) (by kernel_rfl) (fun _ _ _ h => h) (Or.inl ⟨by rfl, fun w hSw => ?hysm9⟩) (by assumption) ?rsm9
  case hysm9 => (try dsimp only at hSw); go_simp; (try with_reducible rfl)
  (try simp only [Act.put, List.setIfInBounds_toArray, List.set_cons_zero, List.set_cons_succ])
  refine wpAnyH_take (i := 9) (oi := ({ dst := some 19, op := Op.nilCheck (Operand.tmp 18), type := 0, pos := "wordfrees.go:122", after := #[{ on := 8, ground := Ground.data }], guard := none } : Oper)) (v := ?vsm10) rfl (by kernel_rfl) (by kernel_rfl) (by kernel_rfl) (fun _ _ _ h => h) (Or.inl ⟨by rfl, fun w hSw => ?hysm10⟩) (by assumption) ?rsm10
  case hysm10 => (try dsimp only at hSw); go_simp; (try with_reducible rfl)
  (try simp only [Act.put, List.setIfInBounds_toArray, List.set_cons_zero, List.set_cons_succ])
  refine wpAnyH_take (i := 10) (oi := ({ dst := some 20, op := Op.fieldAddr 334 (Operand.tmp 19) 2, type := 0, pos := "wordfrees.go:122", after := #[{ on := 9, ground := Ground.data }], guard := none } : Oper)) (v := ?vsm11) rfl (by kernel_rfl) (by kernel_rfl) (by kernel_rfl) (fun _ _ _ h => h) (Or.inl ⟨by rfl, fun w hSw => ?hysm11⟩) (by assumption) ?rsm11
  case hysm11 => (try dsimp only at hSw); go_simp; (try with_reducible rfl)
  (try simp only [Act.put, List.setIfInBounds_toArray, List.set_cons_zero, List.set_cons_succ])
  refine wpAnyH_take (i := 11) (oi := ({ dst := some 21, op := Op.fieldAddr 332 (Operand.tmp 20) 0, type := 0, pos := "wordfrees.go:122", after := #[{ on := 10, ground := Ground.data }], guard := none } : Oper)) (v := ?vsm12) rfl (by kernel_rfl) (by kernel_rfl) (by kernel_rfl) (fun _ _ _ h => h) (Or.inl ⟨by rfl, fun w hSw => ?hysm12⟩) (by assumption) ?rsm12
  case hysm12 => (try dsimp only at hSw); go_simp; (try with_reducible rfl)
  (try simp only [Act.put, List.setIfInBounds_toArray, List.set_cons_zero, List.set_cons_succ])
  refine wpAnyH_take (i := 12) (oi := ({ dst := some 22, op := Op.load 330 (Operand.tmp 21), type := 330, pos := "wordfrees.go:122", after := #[{ on := 11, ground := Ground.data }], guard := none } : Oper)) (v := ?vsm13) rfl (by kernel_rfl) (by kernel_rfl) (by kernel_rfl) (fun _ _ _ h => h) (Or.inl ⟨by rfl, fun w hSw => ?hysm13⟩) (by assumption) ?rsm13
  case hysm13 => (try dsimp only at hSw); go_simp; (try with_reducible rfl)
  (try simp only [Act.put, List.setIfInBounds_toArray, List.set_cons_zero, List.set_cons_succ])
  refine wpAnyH_take (i := 14) (oi := ({ dst := some 24, op := Op.load 330 (Operand.tmp 5), type := 330, pos := "wordfrees.go:122", after := #[], guard := none } : Oper)) (v := ?vsm14) rfl (by kernel_rfl) (by kernel_rfl) (by kernel_rfl) (fun _ _ _ h => h) (Or.inl ⟨by rfl, fun w hSw => ?hysm14⟩) (by assumption) ?rsm14
  case hysm14 => (try dsimp only at hSw); go_simp; (try with_reducible rfl)
  (try simp only [Act.put, List.setIfInBounds_toArray, List.set_cons_zero, List.set_cons_succ])
  refine wpAnyH_ready (rs := [13]) (by kernel_rfl) (by simp) ?_
  refine AllReadyH.cons (o := ({ dst := some 23, op := Op.call { callee := Callee.value (Operand.func 204), args := #[Operand.tmp 22], argTypes := #[330] }, type := 23, pos := "wordfrees.go:122", after := #[{ on := 12, ground := Ground.data }], guard := none } : Oper)) rfl (fun Kq hKq => ?_) AllReadyH.nil
  go_simp
  (refine (HPA.out _).mono ?_; rintro e w3 ⟨rfl, hb3⟩; have H3 := Lib.hid ((HA.out.new (Below.refl _ _).drew).new hb3); clear hb3)
  refine hKq.out _ _ ?_ (fun hHeld => ?_)
  · exact H3.out.held HJ.out HCB.out
  clear hKq Kq
  (try simp only [Act.put, List.setIfInBounds_toArray, List.set_cons_zero, List.set_cons_succ])
  refine wpAnyH_ready (rs := [15]) (by kernel_rfl) (by simp) ?_
  refine AllReadyH.cons (o := ({ dst := some 25, op := Op.call { callee := Callee.value (Operand.func 204), args := #[Operand.tmp 24], argTypes := #[330] }, type := 23, pos := "wordfrees.go:122", after := #[{ on := 14, ground := Ground.data }, { on := 13, ground := Ground.chain }], guard := none } : Oper)) rfl (fun Kq hKq => ?_) AllReadyH.nil
  go_simp
  (refine (HPB.out _).mono ?_; rintro e w4 ⟨rfl, hb4⟩; have H4 := Lib.hid (H3.out.new hb4); clear hb4)
  refine hKq.out _ _ ?_ (fun hHeld => ?_)
  · exact H4.out.held HJ.out HCB.out
  clear hKq Kq
  (try simp only [Act.put, List.setIfInBounds_toArray, List.set_cons_zero, List.set_cons_succ])
  refine wpAnyH_ready (rs := [16]) (by kernel_rfl) (by simp) ?_
  refine AllReadyH.cons (o := ({ dst := some 26, op := Op.call { callee := Callee.value (Operand.func 226), args := #[Operand.tmp 13, Operand.tmp 17, Operand.tmp 23, Operand.tmp 25], argTypes := #[39, 35, 23, 23] }, type := 375, pos := "wordfrees.go:122", after := #[{ on := 3, ground := Ground.data }, { on := 7, ground := Ground.data }, { on := 13, ground := Ground.data }, { on := 15, ground := Ground.data }, { on := 15, ground := Ground.chain }], guard := none } : Oper)) rfl (fun Kq hKq => ?_) AllReadyH.nil
  go_simp
  (refine (HCS.out w4 X H4.out HCB.out).mono ?_; rintro e w5 ⟨rfl, X5, h5, hcb5⟩; have H5 := Lib.hid h5; have HCB5 := Lib.hid hcb5; clear h5 hcb5)
  refine hKq.out _ _ ?_ (fun hHeld => ?_)
  · exact H5.out.held HJ.out HCB5.out
  clear hKq Kq
  (try simp only [Act.put, List.setIfInBounds_toArray, List.set_cons_zero, List.set_cons_succ])
  refine wpAnyH_take (i := 17) (oi := ({ dst := some 9, op := Op.move (Operand.tmp 26), type := 375, pos := "wordfrees.go:122", after := #[{ on := 16, ground := Ground.data }], guard := none } : Oper)) (v := ?vsm15) rfl (by kernel_rfl) (by kernel_rfl) (by kernel_rfl) (fun _ _ _ h => h) (Or.inl ⟨by rfl, fun w hSw => ?hysm15⟩) (by assumption) ?rsm15
  case hysm15 => (try dsimp only at hSw); go_simp; (try with_reducible rfl)
  (try simp only [Act.put, List.setIfInBounds_toArray, List.set_cons_zero, List.set_cons_succ])
  refine wpAnyH_take (i := 18) (oi := ({ dst := some 27, op := Op.extract (Operand.tmp 9) 0, type := 23, pos := "wordfrees.go:122", after := #[{ on := 17, ground := Ground.data }], guard := none } : Oper)) (v := ?vsm16) rfl (by kernel_rfl) (by kernel_rfl) (by kernel_rfl) (fun _ _ _ h => h) (Or.inl ⟨by rfl, fun w hSw => ?hysm16⟩) (by assumption) ?rsm16
  case hysm16 => (try dsimp only at hSw); go_simp; (try with_reducible rfl)
  (try simp only [Act.put, List.setIfInBounds_toArray, List.set_cons_zero, List.set_cons_succ])
  refine wpAnyH_take (i := 19) (oi := ({ dst := some 28, op := Op.extract (Operand.tmp 9) 1, type := 4, pos := "wordfrees.go:122", after := #[{ on := 17, ground := Ground.data }, { on := 20, ground := Ground.gcOnly Departure.lateStores }], guard := none } : Oper)) (v := ?vsm17) rfl (by kernel_rfl) (by kernel_rfl) (by kernel_rfl) (fun _ _ _ h => h) (Or.inl ⟨by rfl, fun w hSw => ?hysm17⟩) (by assumption) ?rsm17
  case hysm17 => (try dsimp only at hSw); go_simp; (try with_reducible rfl)
  (try simp only [Act.put, List.setIfInBounds_toArray, List.set_cons_zero, List.set_cons_succ])
  refine wpAnyH_take (i := 20) (oi := ({ dst := some 7, op := Op.assign (Operand.tmp 27), type := 23, pos := "wordfrees.go:122", after := #[{ on := 18, ground := Ground.data }, { on := 16, ground := Ground.chain }, { on := 0, ground := Ground.phase }, { on := 1, ground := Ground.phase }, { on := 2, ground := Ground.phase }, { on := 3, ground := Ground.phase }, { on := 4, ground := Ground.phase }, { on := 5, ground := Ground.phase }, { on := 6, ground := Ground.phase }, { on := 7, ground := Ground.phase }, { on := 8, ground := Ground.phase }, { on := 9, ground := Ground.phase }, { on := 10, ground := Ground.phase }, { on := 11, ground := Ground.phase }, { on := 12, ground := Ground.phase }, { on := 13, ground := Ground.phase }, { on := 14, ground := Ground.phase }, { on := 15, ground := Ground.phase }, { on := 16, ground := Ground.phase }, { on := 17, ground := Ground.phase }, { on := 18, ground := Ground.phase }, { on := 19, ground := Ground.textOnly Departure.lateStores }], guard := none } : Oper)) (v := ?vsm18) rfl (by kernel_rfl) (by kernel_rfl) (by kernel_rfl) (fun _ _ _ h => h) (Or.inl ⟨by rfl, fun w hSw => ?hysm18⟩) (by assumption) ?rsm18
  case hysm18 => (try dsimp only at hSw); go_simp; (try with_reducible rfl)
  (try simp only [Act.put, List.setIfInBounds_toArray, List.set_cons_zero, List.set_cons_succ])
  refine wpAnyH_take (i := 21) (oi := ({ dst := some 8, op := Op.assign (Operand.tmp 28), type := 4, pos := "wordfrees.go:122", after := #[{ on := 19, ground := Ground.data }, { on := 20, ground := Ground.chain }, { on := 0, ground := Ground.phase }, { on := 1, ground := Ground.phase }, { on := 2, ground := Ground.phase }, { on := 3, ground := Ground.phase }, { on := 4, ground := Ground.phase }, { on := 5, ground := Ground.phase }, { on := 6, ground := Ground.phase }, { on := 7, ground := Ground.phase }, { on := 8, ground := Ground.phase }, { on := 9, ground := Ground.phase }, { on := 10, ground := Ground.phase }, { on := 11, ground := Ground.phase }, { on := 12, ground := Ground.phase }, { on := 13, ground := Ground.phase }, { on := 14, ground := Ground.phase }, { on := 15, ground := Ground.phase }, { on := 16, ground := Ground.phase }, { on := 17, ground := Ground.phase }, { on := 18, ground := Ground.phase }, { on := 19, ground := Ground.phase }, { on := 20, ground := Ground.phase }], guard := none } : Oper)) (v := ?vsm19) rfl (by kernel_rfl) (by kernel_rfl) (by kernel_rfl) (fun _ _ _ h => h) (Or.inl ⟨by rfl, fun w hSw => ?hysm19⟩) (by assumption) ?rsm19
  case hysm19 => (try dsimp only at hSw); go_simp; (try with_reducible rfl)
  (try simp only [Act.put, List.setIfInBounds_toArray, List.set_cons_zero, List.set_cons_succ])
  refine wpAnyH_done (by kernel_rfl) ?_ _
  clear hHeld HPA HPB HCS HA H3 H4
  obtain ⟨a1, a2, a3, a4, a5, a6, a7, a8⟩ := H5.out.held HJ.out HCB5.out
  have f2 := H5.out.fz 2; have f3 := H5.out.fz 3; have f4 := H5.out.fz 4
  by_cases e : x = was
  · have hd : decide (x = was) = true := decide_eq_true e
    have hk : K.cas x was l2 q2 h2 = { K with l := l2, q := q2, h := h2 } := if_pos e
    rw [hd]
    have HK := Lib.hid hk
    clear hk hd HAS
    go_wp2_with fail
    go_ret
    exact ⟨by rw [decide_eq_true e]; rfl, X5, by rw [HK.out]; exact (H5.out.word l2 q2 h2 K.w).dropB HJ.out⟩
  · have hd : decide (x = was) = false := decide_eq_false e
    have hk : K.cas x was l2 q2 h2 = { K with l := S1.bitB x 0, q := S1.bitB x 1, h := S1.headN x } := if_neg e
    rw [hd]
    have HK := Lib.hid hk
    unfold S1.asV at HAS
    obtain ⟨b0, hb0⟩ : ∃ b, b = S1.bitB x 0 := ⟨_, rfl⟩
    obtain ⟨b1, hb1⟩ : ∃ b, b = S1.bitB x 1 := ⟨_, rfl⟩
    obtain ⟨hd2, hhd⟩ : ∃ b, b = S1.headN x := ⟨_, rfl⟩
    rw [← hb0, ← hb1, ← hhd] at HAS HK
    clear hk hd hb0 hb1 hhd a1 a2 a3 a4 a5 a6 a7 a8 f2 f3 f4
    go_upto_region 5 with (fail)
    go_wp2_with (go_at_call 198; refine (HAS.out _).mono ?_; rintro e w6 ⟨rfl, hb6⟩; have H6 := Lib.hid (H5.out.new hb6); have b2 := H6.out.b2; have b3 := H6.out.b3; have b4 := H6.out.b4; have f2 := H6.out.fz 2; have f3 := H6.out.fz 3; have f4 := H6.out.fz 4; clear hb6)
    go_ret
    exact ⟨by rw [decide_eq_false e]; rfl, X5, by rw [HK.out]; exact (H6.out.word b0 b1 hd2 K.w).dropB HJ.out⟩
end
end Go.Proofs.YtjppncglkijbjaaGreatDoor.S14
namespace Go.Proofs.YtjppncglkijbjaaGreatDoor.S14
open Go.Proofs.YtjppncglkijbjaaGreatDoor Go.Proofs.YtjppncglkijbjaaGreatDoor.S11 Go.Proofs.YtjppncglkijbjaaGreatDoor.S12 Go.Proofs.YtjppncglkijbjaaGreatDoor.S13
open Go.RowKit

def Behind (w0 : World) (base WB : Nat) (M : Sd) (r : List Part) (j B : Nat) (K : Fr) (e : Ending) (w' : World) : Prop :=
  e = .returned (.int .u8 ((fstepK M K).ln : Int)) ∧ ∃ X', Wf w0 w' base WB (fstepM M K) r j B { fstepK M K with ln := K.ln } X'
def SeekF (w0 : World) (base WB : Nat) (M : Sd) (r : List Part) (j B : Nat) (K : Fr) (u : Nat) (e : Ending) (w' : World) : Prop :=
  e = .returned (.int .u8 ((seekL M.lk u).2.2 : Int)) ∧ ∃ X', Wf w0 w' base WB (M.link (seekL M.lk u).1) r j B { K with t := (seekL M.lk u).2.1 } X'
theorem seek_le (S : S5.Lk) (h : ∀ i, S i ≤ 64) : ∀ (n t : Nat), t < 64 → ∀ i, (S5.go n S t).1 i ≤ 64 := by
  intro n
  induction n generalizing S with
  | zero => intro t _ i; exact h i
  | succ n ih =>
    intro t ht i
    rw [S5.go]
    split
    · split
      · exact h i
      · refine ih _ (fun k => ?_) _ (by have := h (t * 3); omega) i
        unfold S5.upd
        split
        · omega
        · exact h k
    · exact h i
theorem seekO_le {S : S5.Lk} (h : ∀ i, S i ≤ 64) (u : Nat) : (S5.seekO S (hdO u)).2 ≤ 64 ∧ ∀ i, (S5.seekO S (hdO u)).1 i ≤ 64 := by
  unfold hdO
  split
  · rename_i hu
    have hg := seek_le S h 64 (u / 4 - 1) (by omega)
    show (S5.closeS _ (S5.go 64 S _)).2 ≤ 64 ∧ ∀ i, (S5.closeS _ (S5.go 64 S _)).1 i ≤ 64
    generalize S5.go 64 S (u / 4 - 1) = P at *
    obtain ⟨T, o⟩ := P
    cases o with
    | none => exact ⟨by show 0 ≤ 64; omega, hg⟩
    | some a =>
      refine ⟨hg _, fun i => ?_⟩
      show S5.upd T _ (T _) i ≤ 64
      unfold S5.upd
      split
      · exact hg _
      · exact hg i
  · exact ⟨by show 0 ≤ 64; omega, h⟩
theorem field_prev (a b c : Value) (w : World) : (Instr.field 172 (.agg #[a, b, c]) 1).run Tryz.prog w = .ok b w := by kernel_rfl
section
variable {w0 w w' : World} {base WB : Nat} {M : Sd} {r : List Part} {j B : Nat} {K : Fr} {X : Wm}
theorem Wf.cells (h : Wf w0 w base WB M r j B K X) : w.cell? ⟨WB, 0, none⟩ = some (Pw X.cB) ∧ w.cell? ⟨B, 1, none⟩ = some (.int .u32 (K.a : Int)) := ⟨h.pg.c.1, h.b1⟩
set_option maxRecDepth 100000 in
set_option maxHeartbeats 8000000 in
theorem beh1 (h : Wf w0 w base WB M r j B K X) (ok : FrOk M K) (hl : K.ln = 1) : Calls Tryz.prog 176 #[Pw B, Pw WB] w (Behind w0 base WB M r j B K) := by
  have hj := h.hj
  have c0 := h.b0
  rw [hl] at c0
  have c2 := h.b2; have c3 := h.b3; have c4 := h.b4
  have hA := h.pushB (.cells #[.bool K.l, .bool K.q, .int .i64 K.h] 330)
  obtain ⟨Q, hQ⟩ : ∃ Q, Q = w.heap.size := ⟨_, rfl⟩
  rw [← hQ] at hA
  have HA := Lib.hid hA; have HJ := Lib.hid hj; have HQ := Lib.hid hQ; have HOK := Lib.hid ok; have HL := Lib.hid hl
  clear h hj hA hQ ok hl
  go_enter Tryz.func176, Tryz.ntmps176
  go_wp2_with fail
  refine wp_scope_two rfl rfl ?_
  go_upto_region 3 with (fail)
  rw [← HQ.out]
  generalize w.alloc (.cells #[.bool K.l, .bool K.q, .int .i64 K.h] 330) = w1 at *
  clear c0 c2 c3 c4
  have c0 := HA.out.b0
  rw [HL.out] at c0
  obtain ⟨x, hx⟩ : ∃ x, x = S2.look M.L K.a := ⟨_, rfl⟩
  have hxl : x < 18446744073709551616 := by rw [hx]; exact HA.out.look K.a
  have HAS := Lib.hid (fun W => S1.as_any x hxl W)
  have had : Calls Tryz.prog 199 #[Pw X.cB, .int .u32 (K.a : Int), .int .u64 18446744073709551615] w1.drew fun e w' => e = .returned (.int .u64 (x : Int)) ∧ ∃ X', Pg w0 w' base WB (M.acc 5 K.a ((S2.look M.L K.a + 18446744073709551615) % 18446744073709551616)) ((r ++ [blockP Q (.cells #[.bool K.l, .bool K.q, .int .i64 K.h] 330)]).set j (freeP B K)) X' ∧ X'.cB = X.cB := by
    rw [hx]
    have h1 := pg_add (HA.out.new (Below.refl _ _).drew).pg HOK.out.a (v := 18446744073709551615) (by omega) HOK.out.n
    rw [show ((18446744073709551615 : Nat) : Int) = 18446744073709551615 from rfl] at h1
    exact h1
  have HAD := Lib.hid had
  have HX := Lib.hid hx
  unfold S1.asV at HAS
  obtain ⟨b0, hb0⟩ : ∃ b, b = S1.bitB x 0 := ⟨_, rfl⟩
  obtain ⟨b1, hb1⟩ : ∃ b, b = S1.bitB x 1 := ⟨_, rfl⟩
  obtain ⟨hd, hhd⟩ : ∃ b, b = S1.headN x := ⟨_, rfl⟩
  rw [← hb0, ← hb1, ← hhd] at HAS
  have HB := Lib.hid (And.intro hb0 (And.intro hb1 hhd))
  have HX0 := Lib.hid HA.out.cells
  clear had hx hxl hb0 hb1 hhd
  go_upto_region 7 with (fail)
  clear c0
  refine wp_region_held_drew (S := fun w' => w'.cell? ⟨WB, 0, none⟩ = some (Pw X.cB) ∧ w'.cell? ⟨B, 1, none⟩ = some (.int .u32 (K.a : Int))) (by kernel_rfl) ?_ (fun hHeld => ?_)
  · exact HX0.out
  refine wpAnyH_take (i := 0) (oi := ({ dst := some 30, op := Op.move (Operand.tmp 5), type := 359, pos := "wordfrees.go:68", after := #[], guard := none } : Oper)) (v := ?va1m1) rfl (by kernel_rfl) (by kernel_rfl) (by kernel_rfl) (fun _ _ _ h => h) (Or.inl ⟨by rfl, fun w hSw => ?hya1m1⟩) (by assumption) ?ra1m1
  case hya1m1 => (try dsimp only at hSw); go_simp; (try with_reducible rfl)
  (try simp only [Act.put, List.setIfInBounds_toArray, List.set_cons_zero, List.set_cons_succ])
  refine wpAnyH_take (i := 1) (oi := ({ dst := some 31, op := Op.move (Operand.tmp 1), type := 24, pos := "wordfrees.go:68", after := #[], guard := none } : Oper)) (v := ?va1m2) rfl (by kernel_rfl) (by kernel_rfl) (by kernel_rfl) (fun _ _ _ h => h) (Or.inl ⟨by rfl, fun w hSw => ?hya1m2⟩) (by assumption) ?ra1m2
  case hya1m2 => (try dsimp only at hSw); go_simp; (try with_reducible rfl)
  (try simp only [Act.put, List.setIfInBounds_toArray, List.set_cons_zero, List.set_cons_succ])
  refine wpAnyH_take (i := 2) (oi := ({ dst := some 32, op := Op.nilCheck (Operand.tmp 31), type := 0, pos := "wordfrees.go:68", after := #[{ on := 1, ground := Ground.data }], guard := none } : Oper)) (v := ?va1m3) rfl (by kernel_rfl) (by kernel_rfl) (by kernel_rfl) (fun _ _ _ h => h) (Or.inl ⟨by rfl, fun w hSw => ?hya1m3⟩) (by assumption) ?ra1m3
  case hya1m3 => (try dsimp only at hSw); go_simp; (try with_reducible rfl)
  (try simp only [Act.put, List.setIfInBounds_toArray, List.set_cons_zero, List.set_cons_succ])
  refine wpAnyH_take (i := 3) (oi := ({ dst := some 33, op := Op.fieldAddr 47 (Operand.tmp 32) 0, type := 0, pos := "wordfrees.go:68", after := #[{ on := 2, ground := Ground.data }], guard := none } : Oper)) (v := ?va1m4) rfl (by kernel_rfl) (by kernel_rfl) (by kernel_rfl) (fun _ _ _ h => h) (Or.inl ⟨by rfl, fun w hSw => ?hya1m4⟩) (by assumption) ?ra1m4
  case hya1m4 => (try dsimp only at hSw); go_simp; (try with_reducible rfl)
  (try simp only [Act.put, List.setIfInBounds_toArray, List.set_cons_zero, List.set_cons_succ])
  refine wpAnyH_take (i := 4) (oi := ({ dst := some 34, op := Op.load 39 (Operand.tmp 33), type := 39, pos := "wordfrees.go:68", after := #[{ on := 3, ground := Ground.data }], guard := none } : Oper)) (v := ?va1m5) rfl (by kernel_rfl) (by kernel_rfl) (by kernel_rfl) (fun _ _ _ h => h) (Or.inl ⟨by rfl, fun w hSw => ?hya1m5⟩) (by assumption) ?ra1m5
  case hya1m5 => (try dsimp only at hSw); go_simp; (try with_reducible rfl)
  (try simp only [Act.put, List.setIfInBounds_toArray, List.set_cons_zero, List.set_cons_succ])
  refine wpAnyH_take (i := 5) (oi := ({ dst := some 35, op := Op.move (Operand.tmp 0), type := 73, pos := "wordfrees.go:68", after := #[], guard := none } : Oper)) (v := ?va1m6) rfl (by kernel_rfl) (by kernel_rfl) (by kernel_rfl) (fun _ _ _ h => h) (Or.inl ⟨by rfl, fun w hSw => ?hya1m6⟩) (by assumption) ?ra1m6
  case hya1m6 => (try dsimp only at hSw); go_simp; (try with_reducible rfl)
  (try simp only [Act.put, List.setIfInBounds_toArray, List.set_cons_zero, List.set_cons_succ])
  refine wpAnyH_take (i := 6) (oi := ({ dst := some 36, op := Op.nilCheck (Operand.tmp 35), type := 0, pos := "wordfrees.go:68", after := #[{ on := 5, ground := Ground.data }], guard := none } : Oper)) (v := ?va1m7) rfl (by kernel_rfl) (by kernel_rfl) (by kernel_rfl) (fun _ _ _ h => h) (Or.inl ⟨by rfl, fun w hSw => ?hya1m7⟩) (by assumption) ?ra1m7
  case hya1m7 => (try dsimp only at hSw); go_simp; (try with_reducible rfl)
  (try simp only [Act.put, List.setIfInBounds_toArray, List.set_cons_zero, List.set_cons_succ])
  refine wpAnyH_take (i := 7) (oi := ({ dst := some 37, op := Op.fieldAddr 334 (Operand.tmp 36) 1, type := 0, pos := "wordfrees.go:68", after := #[{ on := 6, ground := Ground.data }], guard := none } : Oper)) (v := ?va1m8) rfl (by kernel_rfl) (by kernel_rfl) (by kernel_rfl) (fun _ _ _ h => h) (Or.inl ⟨by rfl, fun w hSw => ?hya1m8⟩) (by assumption) ?ra1m8
  case hya1m8 => (try dsimp only at hSw); go_simp; (try with_reducible rfl)
  (try simp only [Act.put, List.setIfInBounds_toArray, List.set_cons_zero, List.set_cons_succ])
  refine wpAnyH_take (i := 8) (oi := ({ dst := some 38, op := Op.load 35 (Operand.tmp 37), type := 35, pos := "wordfrees.go:68", after := #[{ on := 7, ground := Ground.data }], guard := none } : Oper)) (v := ?va1m9) rfl (by kernel_rfl) (by kernel_rfl) (by kernel_rfl) (fun _ _ _ h => h) (Or.inl ⟨by rfl, fun w hSw => ?hya1m9⟩) (by assumption) ?ra1m9
  case hya1m9 => (try dsimp only at hSw); go_simp; (try with_reducible rfl)
  (try simp only [Act.put, List.setIfInBounds_toArray, List.set_cons_zero, List.set_cons_succ])
  refine wpAnyH_ready (rs := [9]) (by kernel_rfl) (by simp) ?_
  refine AllReadyH.cons (o := ({ dst := some 39, op := Op.call { callee := Callee.value (Operand.func 199), args := #[Operand.tmp 34, Operand.tmp 38, Operand.const (Value.int IntKind.u64 18446744073709551615)], argTypes := #[39, 35, 23] }, type := 23, pos := "wordfrees.go:68", after := #[{ on := 4, ground := Ground.data }, { on := 8, ground := Ground.data }], guard := none } : Oper)) rfl (fun Kq hKq => ?_) AllReadyH.nil
  go_simp
  (refine HAD.out.mono ?_; rintro e w3 ⟨rfl, X3, h3g, hcb3⟩; have H3 := Lib.hid (show Wf w0 w3 base WB (M.acc 5 K.a ((S2.look M.L K.a + 18446744073709551615) % 18446744073709551616)) (r ++ [blockP Q (.cells #[.bool K.l, .bool K.q, .int .i64 K.h] 330)]) j B K X3 from ⟨h3g, HA.out.hj⟩); have HCB := Lib.hid hcb3; clear h3g hcb3)
  refine hKq.out _ _ ?_ (fun hHeld => ?_)
  · (have q := H3.out.cells; rw [HCB.out] at q; exact q)
  clear hKq Kq
  (try simp only [Act.put, List.setIfInBounds_toArray, List.set_cons_zero, List.set_cons_succ])
  refine wpAnyH_ready (rs := [10]) (by kernel_rfl) (by simp) ?_
  refine AllReadyH.cons (o := ({ dst := some 40, op := Op.call { callee := Callee.value (Operand.func 198), args := #[Operand.tmp 39], argTypes := #[23] }, type := 330, pos := "wordfrees.go:68", after := #[{ on := 9, ground := Ground.data }, { on := 9, ground := Ground.chain }], guard := none } : Oper)) rfl (fun Kq hKq => ?_) AllReadyH.nil
  go_simp
  (refine (HAS.out _).mono ?_; rintro e w4 ⟨rfl, hb4⟩; have H4 := Lib.hid (H3.out.new hb4); clear hb4)
  refine hKq.out _ _ ?_ (fun hHeld => ?_)
  · (have q := H4.out.cells; rw [HCB.out] at q; exact q)
  clear hKq Kq
  (try simp only [Act.put, List.setIfInBounds_toArray, List.set_cons_zero, List.set_cons_succ])
  refine wpAnyH_take (i := 11) (oi := ({ dst := some 41, op := Op.nilCheck (Operand.tmp 30), type := 0, pos := "wordfrees.go:68", after := #[{ on := 0, ground := Ground.data }, { on := 0, ground := Ground.phase }, { on := 1, ground := Ground.phase }, { on := 2, ground := Ground.phase }, { on := 3, ground := Ground.phase }, { on := 4, ground := Ground.phase }, { on := 5, ground := Ground.phase }, { on := 6, ground := Ground.phase }, { on := 7, ground := Ground.phase }, { on := 8, ground := Ground.phase }, { on := 9, ground := Ground.phase }, { on := 10, ground := Ground.phase }], guard := none } : Oper)) (v := ?va1m10) rfl (by kernel_rfl) (by kernel_rfl) (by kernel_rfl) (fun _ _ _ h => h) (Or.inl ⟨by rfl, fun w hSw => ?hya1m10⟩) (by assumption) ?ra1m10
  case hya1m10 => (try dsimp only at hSw); go_simp; (try with_reducible rfl)
  (try simp only [Act.put, List.setIfInBounds_toArray, List.set_cons_zero, List.set_cons_succ])
  refine wpAnyH_take (i := 12) (oi := ({ dst := some 42, op := Op.fieldAddr 332 (Operand.tmp 41) 0, type := 0, pos := "wordfrees.go:68", after := #[{ on := 11, ground := Ground.data }, { on := 0, ground := Ground.phase }, { on := 1, ground := Ground.phase }, { on := 2, ground := Ground.phase }, { on := 3, ground := Ground.phase }, { on := 4, ground := Ground.phase }, { on := 5, ground := Ground.phase }, { on := 6, ground := Ground.phase }, { on := 7, ground := Ground.phase }, { on := 8, ground := Ground.phase }, { on := 9, ground := Ground.phase }, { on := 10, ground := Ground.phase }], guard := none } : Oper)) (v := ?va1m11) rfl (by kernel_rfl) (by kernel_rfl) (by kernel_rfl) (fun _ _ _ h => h) (Or.inl ⟨by rfl, fun w hSw => ?hya1m11⟩) (by assumption) ?ra1m11
  case hya1m11 => (try dsimp only at hSw); go_simp; (try with_reducible rfl)
  (try simp only [Act.put, List.setIfInBounds_toArray, List.set_cons_zero, List.set_cons_succ])
  refine wpAnyH_ready (rs := [13]) (by kernel_rfl) (by simp) ?_
  refine AllReadyH.cons (o := ({ dst := none, op := Op.store 330 (Operand.tmp 42) (Operand.tmp 40), type := 0, pos := "wordfrees.go:68", after := #[{ on := 12, ground := Ground.data }, { on := 10, ground := Ground.data }, { on := 10, ground := Ground.chain }, { on := 0, ground := Ground.phase }, { on := 1, ground := Ground.phase }, { on := 2, ground := Ground.phase }, { on := 3, ground := Ground.phase }, { on := 4, ground := Ground.phase }, { on := 5, ground := Ground.phase }, { on := 6, ground := Ground.phase }, { on := 7, ground := Ground.phase }, { on := 8, ground := Ground.phase }, { on := 9, ground := Ground.phase }, { on := 10, ground := Ground.phase }], guard := none } : Oper)) rfl (fun Kq hKq => ?_) AllReadyH.nil
  (have y2 := H4.out.b2; have y3 := H4.out.b3; have y4 := H4.out.b4; have f2 := H4.out.fz 2; have f3 := H4.out.fz 3; have f4 := H4.out.fz 4; go_simp; have h5 := H4.out.word b0 b1 hd K.w; have H5 := Lib.hid h5; clear y2 y3 y4 f2 f3 f4 h5; generalize ((w4.setCell ⟨B, 2, none⟩ (.bool b0)).setCell ⟨B, 3, none⟩ (.bool b1)).setCell ⟨B, 4, none⟩ (.int .i64 hd) = w5 at *)
  refine hKq.out _ _ ?_ (fun hHeld => ?_)
  · (have q := H5.out.cells; rw [HCB.out] at q; exact q)
  clear hKq Kq
  (try simp only [Act.put, List.setIfInBounds_toArray, List.set_cons_zero, List.set_cons_succ])
  refine wpAnyH_done (by kernel_rfl) ?_ _
  clear hHeld
  have z3 := H5.out.b3; have z4 := H5.out.b4
  have hid : idle x = (b1 || decide (hd = -1)) := by unfold idle; rw [← HB.out.2.1, ← HB.out.2.2]
  have HDN := Lib.hid (done_f (w := w5) b1 hd z3 z4)
  have HID := Lib.hid hid
  clear hid z3 z4
  have hfin : Behind w0 base WB M r j B K (.returned (.int .u8 ((if idle x = true then 0 else 2 : Nat) : Int))) w5 := by
    unfold Behind
    rw [show fstepM M K = _ from by simp only [fstepM, HL.out]; rfl, show fstepK M K = _ from by simp only [fstepK, HL.out]; rfl, ← HX.out, ← HB.out.1, ← HB.out.2.1, ← HB.out.2.2]
    have h6 := H5.out.dropB HJ.out
    rw [← HX.out] at h6
    exact ⟨rfl, X3, h6⟩
  have HF := Lib.hid hfin
  clear hfin
  obtain ⟨id, hid⟩ : ∃ id, id = idle x := ⟨_, rfl⟩
  rw [← HID.out] at HDN
  rw [← hid] at HDN HF
  clear hid HID
  cases id with
  | true =>
    rw [if_pos rfl] at HF
    go_wp2_with (go_at_call 200; refine HDN.out.mono ?_; rintro e w6 ⟨rfl, rfl⟩)
    (try simp only [to2])
    go_ret
    exact HF.out
  | false =>
    rw [if_neg (by decide)] at HF
    go_wp2_with (go_at_call 200; refine HDN.out.mono ?_; rintro e w6 ⟨rfl, rfl⟩)
    (try simp only [to2])
    go_ret
    exact HF.out
end
end Go.Proofs.YtjppncglkijbjaaGreatDoor.S14
