/- Texts of this seat, one behind the other. -/
import Derived.Test.YtjppncglkijbjaaGreatDoorB22
set_option linter.unusedVariables false
set_option linter.unusedSimpArgs false
namespace Go.Proofs.YtjppncglkijbjaaGreatDoor.S14
open Go.Proofs.YtjppncglkijbjaaGreatDoor Go.Proofs.YtjppncglkijbjaaGreatDoor.S11 Go.Proofs.YtjppncglkijbjaaGreatDoor.S12 Go.Proofs.YtjppncglkijbjaaGreatDoor.S13
open Go.RowKit

section
variable {w0 w w' : World} {base WB : Nat} {M : Sd} {r : List Part} {j B : Nat} {K : Fr} {X : Wm}
set_option maxRecDepth 100000 in
set_option maxHeartbeats 8000000 in
theorem beh6 (h : Wf w0 w base WB M r j B K X) (ok : FrOk M K) (hl : K.ln = 6) : Calls Tryz.prog 176 #[Pw B, Pw WB] w (Behind w0 base WB M r j B K) := by
  have hj := h.hj
  have c0 := h.b0
  rw [hl] at c0
  have c2 := h.b2; have c3 := h.b3; have c4 := h.b4
  have hA := h.pushB (.cells #[.bool K.l, .bool K.q, .int .i64 K.h] 330)
  obtain ⟨Q, hQ⟩ : ∃ Q, Q = w.heap.size := ⟨_, rfl⟩
  rw [← hQ] at hA
  have HA := Lib.hid hA; have HJ := Lib.hid hj; have HQ := Lib.hid hQ; have HOK := Lib.hid ok; have HL := Lib.hid hl
  clear h hj hA hQ ok hl
  go_enter Tryz.func176, Tryz.ntmps176
  go_wp2_with fail
  refine wp_scope_two rfl rfl ?_
  go_upto_region 3 with (fail)
  rw [← HQ.out]
  generalize w.alloc (.cells #[.bool K.l, .bool K.q, .int .i64 K.h] 330) = w1 at *
  clear c0 c2 c3 c4
  have c0 := HA.out.b0
  rw [HL.out] at c0
  have hput : ∀ W, Calls Tryz.prog 204 #[.agg #[.bool false, .bool true, .int .i64 (-1)]] W fun e w' => e = .returned (.int .u64 2) ∧ Below W.heap.size W w' := fun W => by
    have := S1.putU_any false true (-1) (by unfold S1.isHead; omega) W
    rwa [show S1.putU false true (-1) = 2 by decide] at this
  have HPT := Lib.hid hput
  have hnd : ∀ W, Wf w0 W base WB M (r ++ [blockP Q (.cells #[.bool K.l, .bool K.q, .int .i64 K.h] 330)]) j B K X → Calls Tryz.prog 203 #[Pw X.cB, .int .u32 (K.a : Int), .int .u64 18446744073709551613] W fun e w' => (∃ v, e = .returned v) ∧ ∃ X', Wf w0 w' base WB (M.acc 6 K.a (S2.look M.L K.a &&& 18446744073709551613)) (r ++ [blockP Q (.cells #[.bool K.l, .bool K.q, .int .i64 K.h] 330)]) j B K X' ∧ X'.cB = X.cB := fun W hW => by
    have h1 := pg_and hW.pg HOK.out.a (v := 18446744073709551613) (by omega) HOK.out.n
    rw [show ((18446744073709551613 : Nat) : Int) = 18446744073709551613 from rfl] at h1
    exact h1.mono (fun e w' h => ⟨⟨_, h.1⟩, by obtain ⟨_, X', h2, h3⟩ := h; exact ⟨X', ⟨h2, hW.hj⟩, h3⟩⟩)
  have HND := Lib.hid hnd
  have hx0 := HA.out.cells
  have HX0 := Lib.hid hx0
  clear hput hnd
  go_upto_region 24 with (fail)
  clear c0
  refine wp_region_held_drew (S := fun w' => w'.cell? ⟨WB, 0, none⟩ = some (Pw X.cB) ∧ w'.cell? ⟨B, 1, none⟩ = some (.int .u32 (K.a : Int))) (by kernel_rfl) ?_ (fun hHeld => ?_)
  · exact HX0.out
  refine wpAnyH_take (i := 0) (oi := ({ dst := some 82, op := Op.move (Operand.tmp 1), type := 24, pos := "wordfrees.go:94", after := #[], guard := none } : Oper)) (v := ?vnm1) rfl (by kernel_rfl) (by kernel_rfl) (by kernel_rfl) (fun _ _ _ h => h) (Or.inl ⟨by rfl, fun w hSw => ?hynm1⟩) (by assumption) ?rnm1
  case hynm1 => (try dsimp only at hSw); go_simp; (try with_reducible rfl)
  (try simp only [Act.put, List.setIfInBounds_toArray, List.set_cons_zero, List.set_cons_succ])
  refine wpAnyH_take (i := 1) (oi := ({ dst := some 83, op := Op.nilCheck (Operand.tmp 82), type := 0, pos := "wordfrees.go:94", after := #[{ on := 0, ground := Ground.data }], guard := none } : Oper)) (v := ?vnm2) rfl (by kernel_rfl) (by kernel_rfl) (by kernel_rfl) (fun _ _ _ h => h) (Or.inl ⟨by rfl, fun w hSw => ?hynm2⟩) (by assumption) ?rnm2
  case hynm2 => (try dsimp only at hSw); go_simp; (try with_reducible rfl)
  (try simp only [Act.put, List.setIfInBounds_toArray, List.set_cons_zero, List.set_cons_succ])
  refine wpAnyH_take (i := 2) (oi := ({ dst := some 84, op := Op.fieldAddr 47 (Operand.tmp 83) 0, type := 0, pos := "wordfrees.go:94", after := #[{ on := 1, ground := Ground.data }], guard := none } : Oper)) (v := ?vnm3) rfl (by kernel_rfl) (by kernel_rfl) (by kernel_rfl) (fun _ _ _ h => h) (Or.inl ⟨by rfl, fun w hSw => ?hynm3⟩) (by assumption) ?rnm3
  case hynm3 => (try dsimp only at hSw); go_simp; (try with_reducible rfl)
  (try simp only [Act.put, List.setIfInBounds_toArray, List.set_cons_zero, List.set_cons_succ])
  refine wpAnyH_take (i := 3) (oi := ({ dst := some 85, op := Op.load 39 (Operand.tmp 84), type := 39, pos := "wordfrees.go:94", after := #[{ on := 2, ground := Ground.data }], guard := none } : Oper)) (v := ?vnm4) rfl (by kernel_rfl) (by kernel_rfl) (by kernel_rfl) (fun _ _ _ h => h) (Or.inl ⟨by rfl, fun w hSw => ?hynm4⟩) (by assumption) ?rnm4
  case hynm4 => (try dsimp only at hSw); go_simp; (try with_reducible rfl)
  (try simp only [Act.put, List.setIfInBounds_toArray, List.set_cons_zero, List.set_cons_succ])
  refine wpAnyH_take (i := 4) (oi := ({ dst := some 86, op := Op.move (Operand.tmp 0), type := 73, pos := "wordfrees.go:94", after := #[], guard := none } : Oper)) (v := ?vnm5) rfl (by kernel_rfl) (by kernel_rfl) (by kernel_rfl) (fun _ _ _ h => h) (Or.inl ⟨by rfl, fun w hSw => ?hynm5⟩) (by assumption) ?rnm5
  case hynm5 => (try dsimp only at hSw); go_simp; (try with_reducible rfl)
  (try simp only [Act.put, List.setIfInBounds_toArray, List.set_cons_zero, List.set_cons_succ])
  refine wpAnyH_take (i := 5) (oi := ({ dst := some 87, op := Op.nilCheck (Operand.tmp 86), type := 0, pos := "wordfrees.go:94", after := #[{ on := 4, ground := Ground.data }], guard := none } : Oper)) (v := ?vnm6) rfl (by kernel_rfl) (by kernel_rfl) (by kernel_rfl) (fun _ _ _ h => h) (Or.inl ⟨by rfl, fun w hSw => ?hynm6⟩) (by assumption) ?rnm6
  case hynm6 => (try dsimp only at hSw); go_simp; (try with_reducible rfl)
  (try simp only [Act.put, List.setIfInBounds_toArray, List.set_cons_zero, List.set_cons_succ])
  refine wpAnyH_take (i := 6) (oi := ({ dst := some 88, op := Op.fieldAddr 334 (Operand.tmp 87) 1, type := 0, pos := "wordfrees.go:94", after := #[{ on := 5, ground := Ground.data }], guard := none } : Oper)) (v := ?vnm7) rfl (by kernel_rfl) (by kernel_rfl) (by kernel_rfl) (fun _ _ _ h => h) (Or.inl ⟨by rfl, fun w hSw => ?hynm7⟩) (by assumption) ?rnm7
  case hynm7 => (try dsimp only at hSw); go_simp; (try with_reducible rfl)
  (try simp only [Act.put, List.setIfInBounds_toArray, List.set_cons_zero, List.set_cons_succ])
  refine wpAnyH_take (i := 7) (oi := ({ dst := some 89, op := Op.load 35 (Operand.tmp 88), type := 35, pos := "wordfrees.go:94", after := #[{ on := 6, ground := Ground.data }], guard := none } : Oper)) (v := ?vnm8) rfl (by kernel_rfl) (by kernel_rfl) (by kernel_rfl) (fun _ _ _ h => h) (Or.inl ⟨by rfl, fun w hSw => ?hynm8⟩) (by assumption) ?rnm8
  case hynm8 => (try dsimp only at hSw); go_simp; (try with_reducible rfl)
  (try simp only [Act.put, List.setIfInBounds_toArray, List.set_cons_zero, List.set_cons_succ])
  refine wpAnyH_take (i := 8) (oi := ({ dst := some 90, op := Op.build 330 #[(1, Operand.const (Value.bool true)), (2, Operand.const (Value.int IntKind.i64 (-1)))], type := 330, pos := "wordfrees.go:94", after := #[], guard := none } : Oper)) (v := ?vnm9) rfl (by kernel_rfl) (by kernel_rfl) (by kernel_rfl) (fun _ _ _ h => h) (Or.inl ⟨by rfl, fun w hSw => ?hynm9⟩) (by assumption) ?rnm9
  case hynm9 => (try dsimp only at hSw); go_simp; (try with_reducible rfl)
  (try simp only [Act.put, List.setIfInBounds_toArray, List.set_cons_zero, List.set_cons_succ])
  refine wpAnyH_ready (rs := [9]) (by kernel_rfl) (by simp) ?_
  refine AllReadyH.cons (o := ({ dst := some 91, op := Op.call { callee := Callee.value (Operand.func 204), args := #[Operand.tmp 90], argTypes := #[330] }, type := 23, pos := "wordfrees.go:94", after := #[{ on := 8, ground := Ground.data }], guard := none } : Oper)) rfl (fun Kq hKq => ?_) AllReadyH.nil
  go_simp
  (refine (HPT.out _).mono ?_; rintro e w4 ⟨rfl, hb4⟩; have H4 := Lib.hid ((HA.out.new (Below.refl _ _).drew).new hb4); clear hb4)
  refine hKq.out _ _ ?_ (fun hHeld => ?_)
  · exact H4.out.cells
  clear hKq Kq
  (try simp only [Act.put, List.setIfInBounds_toArray, List.set_cons_zero, List.set_cons_succ])
  refine wpAnyH_take (i := 10) (oi := ({ dst := some 92, op := Op.unOp UnOp.xor 23 (Operand.tmp 91), type := 23, pos := "wordfrees.go:94", after := #[{ on := 9, ground := Ground.data }], guard := none } : Oper)) (v := ?vnm10) rfl (by kernel_rfl) (by kernel_rfl) (by kernel_rfl) (fun _ _ _ h => h) (Or.inl ⟨by rfl, fun w hSw => ?hynm10⟩) (by assumption) ?rnm10
  case hynm10 => (try dsimp only at hSw); go_simp; (try with_reducible rfl)
  (try simp only [Act.put, List.setIfInBounds_toArray, List.set_cons_zero, List.set_cons_succ])
  refine wpAnyH_ready (rs := [11]) (by kernel_rfl) (by simp) ?_
  refine AllReadyH.cons (o := ({ dst := some 93, op := Op.call { callee := Callee.value (Operand.func 203), args := #[Operand.tmp 85, Operand.tmp 89, Operand.tmp 92], argTypes := #[39, 35, 23] }, type := 23, pos := "wordfrees.go:94", after := #[{ on := 3, ground := Ground.data }, { on := 7, ground := Ground.data }, { on := 10, ground := Ground.data }, { on := 9, ground := Ground.chain }], guard := none } : Oper)) rfl (fun Kq hKq => ?_) AllReadyH.nil
  go_simp
  (refine (HND.out w4 H4.out).mono ?_; rintro e w5 ⟨⟨av, rfl⟩, X5, h5, hcb5⟩; have H5 := Lib.hid h5; have HCB5 := Lib.hid hcb5; clear h5 hcb5)
  refine hKq.out _ _ ?_ (fun hHeld => ?_)
  · (have q := H5.out.cells; rw [HCB5.out] at q; exact q)
  clear hKq Kq
  (try simp only [Act.put, List.setIfInBounds_toArray, List.set_cons_zero, List.set_cons_succ])
  refine wpAnyH_done (by kernel_rfl) ?_ _
  have hfin : Behind w0 base WB M r j B K (.returned (.int .u8 (7 : Int))) w5 := by
    unfold Behind
    rw [show fstepM M K = _ from by simp only [fstepM, HL.out]; rfl, show fstepK M K = _ from by simp only [fstepK, HL.out]; rfl]
    exact ⟨rfl, X5, H5.out.dropB HJ.out⟩
  have HF := Lib.hid hfin
  clear hfin hHeld hx0
  go_wp2_with fail
  (try simp only [to2])
  go_ret
  exact HF.out
end
end Go.Proofs.YtjppncglkijbjaaGreatDoor.S14
namespace Go.Proofs.YtjppncglkijbjaaGreatDoor.S14
open Go.Proofs.YtjppncglkijbjaaGreatDoor Go.Proofs.YtjppncglkijbjaaGreatDoor.S11 Go.Proofs.YtjppncglkijbjaaGreatDoor.S12 Go.Proofs.YtjppncglkijbjaaGreatDoor.S13
open Go.RowKit

section
variable {w0 w w' : World} {base WB : Nat} {M : Sd} {r : List Part} {j B : Nat} {K : Fr} {X : Wm}
set_option maxRecDepth 100000 in
set_option maxHeartbeats 8000000 in
theorem beh7 (h : Wf w0 w base WB M r j B K X) (ok : FrOk M K) (hl : K.ln = 7) : Calls Tryz.prog 176 #[Pw B, Pw WB] w (Behind w0 base WB M r j B K) := by
  have hj := h.hj
  have c0 := h.b0
  rw [hl] at c0
  have c2 := h.b2; have c3 := h.b3; have c4 := h.b4
  have hA := h.pushB (.cells #[.bool K.l, .bool K.q, .int .i64 K.h] 330)
  obtain ⟨Q, hQ⟩ : ∃ Q, Q = w.heap.size := ⟨_, rfl⟩
  rw [← hQ] at hA
  have HA := Lib.hid hA; have HJ := Lib.hid hj; have HQ := Lib.hid hQ; have HOK := Lib.hid ok; have HL := Lib.hid hl
  clear h hj hA hQ ok hl
  go_enter Tryz.func176, Tryz.ntmps176
  go_wp2_with fail
  refine wp_scope_two rfl rfl ?_
  go_upto_region 3 with (fail)
  rw [← HQ.out]
  generalize w.alloc (.cells #[.bool K.l, .bool K.q, .int .i64 K.h] 330) = w1 at *
  clear c0 c2 c3 c4
  have c0 := HA.out.b0
  rw [HL.out] at c0
  obtain ⟨t0, t1⟩ := HOK.out.t (by rw [HL.out]; omega)
  obtain ⟨tn, htn⟩ := Int.eq_ofNat_of_zero_le t0
  have htl : tn < 64 := by omega
  have HWD := Lib.hid (fun W => word_any tn htl W)
  have hun : ∀ W, Wf w0 W base WB M (r ++ [blockP Q (.cells #[.bool K.l, .bool K.q, .int .i64 K.h] 330)]) j B K X → Calls Tryz.prog 150 #[Pw X.pB, .int .i64 ((2 * tn + 1 : Nat) : Int)] W fun e w' => e = .returned (.tuple #[]) ∧ ∃ X', Wf w0 w' base WB (M.unpark (2 * tn + 1)) (r ++ [blockP Q (.cells #[.bool K.l, .bool K.q, .int .i64 K.h] 330)]) j B K X' ∧ X'.pB = X.pB := fun W hW =>
    (hW.pg.unpark HOK.out.pn (by omega)).mono (fun e w' h => ⟨h.1, by obtain ⟨_, X', h2, h3⟩ := h; exact ⟨X', ⟨h2, hW.hj⟩, h3⟩⟩)
  have HUN := Lib.hid hun
  have hx2 := HA.out.pg.c.2.1; have hx5 := HA.out.b5
  rw [htn] at hx5
  have HX0 := Lib.hid (And.intro hx2 hx5)
  have HTN := Lib.hid htn
  clear hun t0 t1 htn htl hx2 hx5
  go_upto_region 4 with (fail)
  clear c0
  refine wp_region_held_drew (S := fun w' => w'.cell? ⟨WB, 2, none⟩ = some (Pw X.pB) ∧ w'.cell? ⟨B, 5, none⟩ = some (.int .i64 (tn : Int))) (by kernel_rfl) ?_ (fun hHeld => ?_)
  · exact HX0.out
  refine wpAnyH_take (i := 0) (oi := ({ dst := some 18, op := Op.move (Operand.tmp 1), type := 24, pos := "wordfrees.go:97", after := #[], guard := none } : Oper)) (v := ?vum1) rfl (by kernel_rfl) (by kernel_rfl) (by kernel_rfl) (fun _ _ _ h => h) (Or.inl ⟨by rfl, fun w hSw => ?hyum1⟩) (by assumption) ?rum1
  case hyum1 => (try dsimp only at hSw); go_simp; (try with_reducible rfl)
  (try simp only [Act.put, List.setIfInBounds_toArray, List.set_cons_zero, List.set_cons_succ])
  refine wpAnyH_take (i := 1) (oi := ({ dst := some 19, op := Op.nilCheck (Operand.tmp 18), type := 0, pos := "wordfrees.go:97", after := #[{ on := 0, ground := Ground.data }], guard := none } : Oper)) (v := ?vum2) rfl (by kernel_rfl) (by kernel_rfl) (by kernel_rfl) (fun _ _ _ h => h) (Or.inl ⟨by rfl, fun w hSw => ?hyum2⟩) (by assumption) ?rum2
  case hyum2 => (try dsimp only at hSw); go_simp; (try with_reducible rfl)
  (try simp only [Act.put, List.setIfInBounds_toArray, List.set_cons_zero, List.set_cons_succ])
  refine wpAnyH_take (i := 2) (oi := ({ dst := some 20, op := Op.fieldAddr 47 (Operand.tmp 19) 2, type := 0, pos := "wordfrees.go:97", after := #[{ on := 1, ground := Ground.data }], guard := none } : Oper)) (v := ?vum3) rfl (by kernel_rfl) (by kernel_rfl) (by kernel_rfl) (fun _ _ _ h => h) (Or.inl ⟨by rfl, fun w hSw => ?hyum3⟩) (by assumption) ?rum3
  case hyum3 => (try dsimp only at hSw); go_simp; (try with_reducible rfl)
  (try simp only [Act.put, List.setIfInBounds_toArray, List.set_cons_zero, List.set_cons_succ])
  refine wpAnyH_take (i := 3) (oi := ({ dst := some 21, op := Op.load 41 (Operand.tmp 20), type := 41, pos := "wordfrees.go:97", after := #[{ on := 2, ground := Ground.data }], guard := none } : Oper)) (v := ?vum4) rfl (by kernel_rfl) (by kernel_rfl) (by kernel_rfl) (fun _ _ _ h => h) (Or.inl ⟨by rfl, fun w hSw => ?hyum4⟩) (by assumption) ?rum4
  case hyum4 => (try dsimp only at hSw); go_simp; (try with_reducible rfl)
  (try simp only [Act.put, List.setIfInBounds_toArray, List.set_cons_zero, List.set_cons_succ])
  refine wpAnyH_take (i := 4) (oi := ({ dst := some 22, op := Op.move (Operand.tmp 5), type := 359, pos := "wordfrees.go:97", after := #[], guard := none } : Oper)) (v := ?vum5) rfl (by kernel_rfl) (by kernel_rfl) (by kernel_rfl) (fun _ _ _ h => h) (Or.inl ⟨by rfl, fun w hSw => ?hyum5⟩) (by assumption) ?rum5
  case hyum5 => (try dsimp only at hSw); go_simp; (try with_reducible rfl)
  (try simp only [Act.put, List.setIfInBounds_toArray, List.set_cons_zero, List.set_cons_succ])
  refine wpAnyH_take (i := 5) (oi := ({ dst := some 23, op := Op.nilCheck (Operand.tmp 22), type := 0, pos := "wordfrees.go:97", after := #[{ on := 4, ground := Ground.data }], guard := none } : Oper)) (v := ?vum6) rfl (by kernel_rfl) (by kernel_rfl) (by kernel_rfl) (fun _ _ _ h => h) (Or.inl ⟨by rfl, fun w hSw => ?hyum6⟩) (by assumption) ?rum6
  case hyum6 => (try dsimp only at hSw); go_simp; (try with_reducible rfl)
  (try simp only [Act.put, List.setIfInBounds_toArray, List.set_cons_zero, List.set_cons_succ])
  refine wpAnyH_take (i := 6) (oi := ({ dst := some 24, op := Op.fieldAddr 332 (Operand.tmp 23) 1, type := 0, pos := "wordfrees.go:97", after := #[{ on := 5, ground := Ground.data }], guard := none } : Oper)) (v := ?vum7) rfl (by kernel_rfl) (by kernel_rfl) (by kernel_rfl) (fun _ _ _ h => h) (Or.inl ⟨by rfl, fun w hSw => ?hyum7⟩) (by assumption) ?rum7
  case hyum7 => (try dsimp only at hSw); go_simp; (try with_reducible rfl)
  (try simp only [Act.put, List.setIfInBounds_toArray, List.set_cons_zero, List.set_cons_succ])
  refine wpAnyH_take (i := 7) (oi := ({ dst := some 25, op := Op.load 3 (Operand.tmp 24), type := 3, pos := "wordfrees.go:97", after := #[{ on := 6, ground := Ground.data }], guard := none } : Oper)) (v := ?vum8) rfl (by kernel_rfl) (by kernel_rfl) (by kernel_rfl) (fun _ _ _ h => h) (Or.inl ⟨by rfl, fun w hSw => ?hyum8⟩) (by assumption) ?rum8
  case hyum8 => (try dsimp only at hSw); go_simp; (try with_reducible rfl)
  (try simp only [Act.put, List.setIfInBounds_toArray, List.set_cons_zero, List.set_cons_succ])
  refine wpAnyH_ready (rs := [8]) (by kernel_rfl) (by simp) ?_
  refine AllReadyH.cons (o := ({ dst := some 26, op := Op.call { callee := Callee.value (Operand.func 36), args := #[Operand.tmp 25], argTypes := #[3] }, type := 3, pos := "wordfrees.go:97", after := #[{ on := 7, ground := Ground.data }], guard := none } : Oper)) rfl (fun Kq hKq => ?_) AllReadyH.nil
  go_simp
  (refine (HWD.out _).mono ?_; rintro e w4 ⟨rfl, rfl⟩)
  refine hKq.out _ _ ?_ (fun hHeld => ?_)
  · exact HX0.out
  clear hKq Kq
  (try simp only [Act.put, List.setIfInBounds_toArray, List.set_cons_zero, List.set_cons_succ])
  refine wpAnyH_ready (rs := [9]) (by kernel_rfl) (by simp) ?_
  refine AllReadyH.cons (o := ({ dst := some 27, op := Op.call { callee := Callee.value (Operand.func 150), args := #[Operand.tmp 21, Operand.tmp 26], argTypes := #[41, 3] }, type := 0, pos := "wordfrees.go:97", after := #[{ on := 3, ground := Ground.data }, { on := 8, ground := Ground.data }, { on := 8, ground := Ground.chain }], guard := none } : Oper)) rfl (fun Kq hKq => ?_) AllReadyH.nil
  go_simp
  (refine (HUN.out _ (HA.out.new (Below.refl _ _).drew)).mono ?_; rintro e w5 ⟨rfl, X5, h5, hpb5⟩; have H5 := Lib.hid h5; have HPB5 := Lib.hid hpb5; clear h5 hpb5)
  refine hKq.out _ _ ?_ (fun hHeld => ?_)
  · (have q2 := H5.out.pg.c.2.1; have q5 := H5.out.b5; rw [HPB5.out] at q2; rw [HTN.out] at q5; exact ⟨q2, q5⟩)
  clear hKq Kq
  (try simp only [Act.put, List.setIfInBounds_toArray, List.set_cons_zero, List.set_cons_succ])
  refine wpAnyH_done (by kernel_rfl) ?_ _
  have hfin : Behind w0 base WB M r j B K (.returned (.int .u8 (0 : Int))) w5 := by
    unfold Behind
    rw [show fstepM M K = _ from by simp only [fstepM, HL.out]; rfl, show fstepK M K = _ from by simp only [fstepK, HL.out]; rfl, show K.t.toNat = tn by rw [HTN.out]; rfl]
    exact ⟨rfl, X5, H5.out.dropB HJ.out⟩
  have HF := Lib.hid hfin
  clear hfin hHeld
  go_wp2_with fail
  (try simp only [to2])
  go_ret
  exact HF.out
end
end Go.Proofs.YtjppncglkijbjaaGreatDoor.S14
