/- Texts of this seat, one behind the other. -/
import Derived.Test.YtjppncglkijbjaaGreatDoorB39
import Derived.Test.YtjppncglkijbjaaGreatDoorB40
set_option linter.unusedVariables false
set_option linter.unusedSimpArgs false
set_option linter.unusedVariables false
set_option linter.unusedSimpArgs false
namespace Go.Proofs.YtjppncglkijbjaaGreatDoor.S18
open Go.Proofs.YtjppncglkijbjaaGreatDoor Go.Proofs.YtjppncglkijbjaaGreatDoor.S11 Go.Proofs.YtjppncglkijbjaaGreatDoor.S12 Go.Proofs.YtjppncglkijbjaaGreatDoor.S13 Go.Proofs.YtjppncglkijbjaaGreatDoor.S14 Go.Proofs.YtjppncglkijbjaaGreatDoor.S15 Go.Proofs.YtjppncglkijbjaaGreatDoor.S16
open Go.RowKit

section
variable {w0 w w' : World} {base WB : Nat} {M : Sd} {r : List Part} {j e u B : Nat} {l l' : Rows} {X : Wm} {D : Pd} {pb pi : Int} {p b : Value} {o : Nat}
set_option maxRecDepth 100000 in
set_option maxHeartbeats 4000000 in
theorem clate1_ {CB kc ca cl cn cc : Nat} (h : Wq w0 w base WB M r j l X) (hc : l[kc]? = some (CB, ckO ⟨ca, cl, cn, cc⟩)) (ha : ca < 4294967296) (hcc : cc < 18446744073709551616) (hn : M.n ≤ 1000000000) :
    Calls Tryz.prog 288 #[Pw WB, Pw CB] w fun e' w' => e' = .returned (.tuple #[]) ∧ ∃ X', Wq w0 w' base WB (M.acc 6 ca (S2.look M.L ca &&& S2.cpl cc)) r j l X' := by
  have y1 : w.cell? ⟨CB, 0, none⟩ = some (.int .u32 (ca : Int)) := cell_row (h.blk kc hc) 0
  have y2 : w.cell? ⟨CB, 3, none⟩ = some (.int .u64 (cc : Int)) := cell_row (h.blk kc hc) 3
  have hc0 := h.pg.c.1
  obtain ⟨cb, hcb⟩ : ∃ cb, X.cB = cb := ⟨_, rfl⟩
  rw [hcb] at hc0
  have hcl := S2.cpl_lt cc
  have han := S14.pg_and (h.new (Below.refl _ w).drew).pg (a := ca) (v := S2.cpl cc) ha hcl hn
  rw [hcb] at han
  have e1 : bits .xor .u64 (if IntKind.u64.signed = true then -1 else IntKind.u64.max) (cc : Int) = ((S2.cpl cc : Nat) : Int) := by rw [if_neg (by decide)]; exact S2.bits_not cc hcc
  generalize S2.cpl cc = cp at *
  generalize S2.look M.L ca &&& cp = u0 at *
  have HAN := Lib.hid han; have H := Lib.hid h; have HCR := Lib.hid hc
  clear h hc ha hn hcb han hcl hcc
  go_enter Tryz.func288, Tryz.ntmps288
  refine wp_region_held_drew (S := fun w' => w'.cell? ⟨WB, 0, none⟩ = some (Pw cb) ∧ w'.cell? ⟨CB, 0, none⟩ = some (.int .u32 (ca : Int)) ∧ w'.cell? ⟨CB, 3, none⟩ = some (.int .u64 (cc : Int))) (by kernel_rfl) ?_ (fun hHeld => ?_)
  · exact ⟨hc0, y1, y2⟩
  refine wpAnyH_take (i := 0) (oi := ({ dst := some 3, op := Op.move (Operand.tmp 0), type := 24, pos := "hooks.go:77", after := #[], guard := none } : Oper)) (v := ?vkcm1) rfl (by kernel_rfl) (by kernel_rfl) (by kernel_rfl) (fun _ _ _ h => h) (Or.inl ⟨by rfl, fun w hSw => ?hykcm1⟩) (by assumption) ?rkcm1
  case hykcm1 => (try dsimp only at hSw); go_simp; (try with_reducible rfl)
  (try simp only [Act.put, List.setIfInBounds_toArray, List.set_cons_zero, List.set_cons_succ])
  refine wpAnyH_take (i := 1) (oi := ({ dst := some 4, op := Op.nilCheck (Operand.tmp 3), type := 0, pos := "hooks.go:77", after := #[{ on := 0, ground := Ground.data }], guard := none } : Oper)) (v := ?vkcm2) rfl (by kernel_rfl) (by kernel_rfl) (by kernel_rfl) (fun _ _ _ h => h) (Or.inl ⟨by rfl, fun w hSw => ?hykcm2⟩) (by assumption) ?rkcm2
  case hykcm2 => (try dsimp only at hSw); go_simp; (try with_reducible rfl)
  (try simp only [Act.put, List.setIfInBounds_toArray, List.set_cons_zero, List.set_cons_succ])
  refine wpAnyH_take (i := 2) (oi := ({ dst := some 5, op := Op.fieldAddr 47 (Operand.tmp 4) 0, type := 0, pos := "hooks.go:77", after := #[{ on := 1, ground := Ground.data }], guard := none } : Oper)) (v := ?vkcm3) rfl (by kernel_rfl) (by kernel_rfl) (by kernel_rfl) (fun _ _ _ h => h) (Or.inl ⟨by rfl, fun w hSw => ?hykcm3⟩) (by assumption) ?rkcm3
  case hykcm3 => (try dsimp only at hSw); go_simp; (try with_reducible rfl)
  (try simp only [Act.put, List.setIfInBounds_toArray, List.set_cons_zero, List.set_cons_succ])
  refine wpAnyH_take (i := 3) (oi := ({ dst := some 6, op := Op.load 39 (Operand.tmp 5), type := 39, pos := "hooks.go:77", after := #[{ on := 2, ground := Ground.data }], guard := none } : Oper)) (v := ?vkcm4) rfl (by kernel_rfl) (by kernel_rfl) (by kernel_rfl) (fun _ _ _ h => h) (Or.inl ⟨by rfl, fun w hSw => ?hykcm4⟩) (by assumption) ?rkcm4
  case hykcm4 => (try dsimp only at hSw); go_simp; (try with_reducible rfl)
  (try simp only [Act.put, List.setIfInBounds_toArray, List.set_cons_zero, List.set_cons_succ])
  refine wpAnyH_take (i := 4) (oi := ({ dst := some 7, op := Op.fieldAddr 419 (Operand.tmp 1) 0, type := 0, pos := "hooks.go:77", after := #[], guard := none } : Oper)) (v := ?vkcm5) rfl (by kernel_rfl) (by kernel_rfl) (by kernel_rfl) (fun _ _ _ h => h) (Or.inl ⟨by rfl, fun w hSw => ?hykcm5⟩) (by assumption) ?rkcm5
  case hykcm5 => (try dsimp only at hSw); go_simp; (try with_reducible rfl)
  (try simp only [Act.put, List.setIfInBounds_toArray, List.set_cons_zero, List.set_cons_succ])
  refine wpAnyH_take (i := 5) (oi := ({ dst := some 8, op := Op.load 35 (Operand.tmp 7), type := 35, pos := "hooks.go:77", after := #[{ on := 4, ground := Ground.data }], guard := none } : Oper)) (v := ?vkcm6) rfl (by kernel_rfl) (by kernel_rfl) (by kernel_rfl) (fun _ _ _ h => h) (Or.inl ⟨by rfl, fun w hSw => ?hykcm6⟩) (by assumption) ?rkcm6
  case hykcm6 => (try dsimp only at hSw); go_simp; (try with_reducible rfl)
  (try simp only [Act.put, List.setIfInBounds_toArray, List.set_cons_zero, List.set_cons_succ])
  refine wpAnyH_take (i := 6) (oi := ({ dst := some 9, op := Op.fieldAddr 419 (Operand.tmp 1) 3, type := 0, pos := "hooks.go:77", after := #[], guard := none } : Oper)) (v := ?vkcm7) rfl (by kernel_rfl) (by kernel_rfl) (by kernel_rfl) (fun _ _ _ h => h) (Or.inl ⟨by rfl, fun w hSw => ?hykcm7⟩) (by assumption) ?rkcm7
  case hykcm7 => (try dsimp only at hSw); go_simp; (try with_reducible rfl)
  (try simp only [Act.put, List.setIfInBounds_toArray, List.set_cons_zero, List.set_cons_succ])
  refine wpAnyH_take (i := 7) (oi := ({ dst := some 10, op := Op.load 23 (Operand.tmp 9), type := 23, pos := "hooks.go:77", after := #[{ on := 6, ground := Ground.data }], guard := none } : Oper)) (v := ?vkcm8) rfl (by kernel_rfl) (by kernel_rfl) (by kernel_rfl) (fun _ _ _ h => h) (Or.inl ⟨by rfl, fun w hSw => ?hykcm8⟩) (by assumption) ?rkcm8
  case hykcm8 => (try dsimp only at hSw); go_simp; (try with_reducible rfl)
  (try simp only [Act.put, List.setIfInBounds_toArray, List.set_cons_zero, List.set_cons_succ])
  refine wpAnyH_take (i := 8) (oi := ({ dst := some 11, op := Op.unOp UnOp.xor 23 (Operand.tmp 10), type := 23, pos := "hooks.go:77", after := #[{ on := 7, ground := Ground.data }], guard := none } : Oper)) (v := ?vkcm9) rfl (by kernel_rfl) (by kernel_rfl) (by kernel_rfl) (fun _ _ _ h => h) (Or.inl ⟨by rfl, fun w hSw => ?hykcm9⟩) (by assumption) ?rkcm9
  case hykcm9 => (try dsimp only at hSw); go_simp; (try with_reducible rfl)
  (try simp only [Act.put, List.setIfInBounds_toArray, List.set_cons_zero, List.set_cons_succ])
  refine wpAnyH_ready (rs := [9]) (by kernel_rfl) (by simp) ?_
  refine AllReadyH.cons (o := ({ dst := some 12, op := Op.call { callee := Callee.value (Operand.func 203), args := #[Operand.tmp 6, Operand.tmp 8, Operand.tmp 11], argTypes := #[39, 35, 23] }, type := 23, pos := "hooks.go:77", after := #[{ on := 3, ground := Ground.data }, { on := 5, ground := Ground.data }, { on := 8, ground := Ground.data }], guard := none } : Oper)) rfl (fun Kq hKq => ?_) AllReadyH.nil
  go_simp
  (refine HAN.out.mono ?_; rintro e' w2 ⟨rfl, X2, h2, hc2⟩; have H2 := Lib.hid (H.out.pgq h2); have HC2 := Lib.hid hc2; clear h2 hc2)
  refine hKq.out _ _ ?_ (fun hHeld => ?_)
  · exact ⟨by rw [← HC2.out]; exact H2.out.pg.c.1, cell_row (H2.out.blk kc HCR.out) 0, cell_row (H2.out.blk kc HCR.out) 3⟩
  clear hKq Kq
  (try simp only [Act.put, List.setIfInBounds_toArray, List.set_cons_zero, List.set_cons_succ])
  refine wpAnyH_done (by kernel_rfl) ?_ _
  go_end0
  exact ⟨rfl, X2, H2.out⟩
end
end Go.Proofs.YtjppncglkijbjaaGreatDoor.S18
set_option linter.unusedVariables false
set_option linter.unusedSimpArgs false
namespace Go.Proofs.YtjppncglkijbjaaGreatDoor.S18
open Go.Proofs.YtjppncglkijbjaaGreatDoor Go.Proofs.YtjppncglkijbjaaGreatDoor.S11 Go.Proofs.YtjppncglkijbjaaGreatDoor.S12 Go.Proofs.YtjppncglkijbjaaGreatDoor.S13 Go.Proofs.YtjppncglkijbjaaGreatDoor.S14 Go.Proofs.YtjppncglkijbjaaGreatDoor.S15 Go.Proofs.YtjppncglkijbjaaGreatDoor.S16
open Go.RowKit

theorem m_stepE (a : Addr) (w : World) : (method 538 70 (.pointer (some a)) "Step").run Tryz.prog w = .ok (145, .pointer (some a)) w := by kernel_rfl
theorem m_stepL (a : Addr) (w : World) : (method 538 420 (.pointer (some a)) "Step").run Tryz.prog w = .ok (309, .pointer (some a)) w := by kernel_rfl
theorem m_stepO (a : Addr) (w : World) : (method 538 342 (.pointer (some a)) "Step").run Tryz.prog w = .ok (309, .pointer (some a)) w := by kernel_rfl
theorem m_stepF (a : Addr) (w : World) : (method 538 73 (.pointer (some a)) "Step").run Tryz.prog w = .ok (151, .pointer (some a)) w := by kernel_rfl
theorem m_stepS (a : Addr) (w : World) : (method 538 200 (.pointer (some a)) "Step").run Tryz.prog w = .ok (280, .pointer (some a)) w := by kernel_rfl
theorem m_stepW (a : Addr) (w : World) : (method 538 390 (.pointer (some a)) "Step").run Tryz.prog w = .ok (311, .pointer (some a)) w := by kernel_rfl
theorem eqPN (T : TypeId) (v : Value) (w : World) : (binOp .eql 72 (.iface T v) .nilIface).run Tryz.prog w = .ok (.bool false) w := by kernel_rfl
def HasPart (w : World) (B : Nat) : Prop := ∃ T v, w.cell? ⟨B, 8, none⟩ = some (.iface T v)
set_option maxRecDepth 100000 in
set_option maxHeartbeats 4000000 in
theorem over_no {w : World} {B : Nat} (h : HasPart w B) : Calls Tryz.prog 73 #[Pw B] w fun e w' => e = .returned (.bool false) ∧ w = w' := by
  obtain ⟨T, v, c8⟩ := h
  have e1 := eqPN T v
  go_enter Tryz.func73, Tryz.ntmps73
  go_wp2_with fail
  go_ret
  exact ⟨rfl, rfl⟩
set_option maxRecDepth 100000 in
set_option maxHeartbeats 4000000 in
theorem over_yes {w : World} {B : Nat} (c8 : w.cell? ⟨B, 8, none⟩ = some .nilIface) : Calls Tryz.prog 73 #[Pw B] w fun e w' => e = .returned (.bool true) ∧ w = w' := by
  have e1 := eqI0
  go_enter Tryz.func73, Tryz.ntmps73
  go_wp2_with fail
  go_ret
  exact ⟨rfl, rfl⟩
section
variable {w : World} {B WB : Nat} {Q Q1 : World → Prop}
set_option maxRecDepth 100000 in
set_option maxHeartbeats 4000000 in
theorem moreE {U : Nat} (c8 : w.cell? ⟨B, 8, none⟩ = some (.iface 70 (Pw U))) (hst : Calls Tryz.prog 145 #[Pw U, Pw WB] w fun e w' => e = .returned (.bool false) ∧ Q w') (hq : ∀ W, Q W → HasPart W B) :
    Calls Tryz.prog 30 #[Pw B, Pw WB] w fun e w' => e = .returned (.bool false) ∧ Q w' := by
  have hov := over_no ⟨_, _, c8⟩
  have hm := m_stepE ⟨U, 0, none⟩ w
  have HOV := Lib.hid hov; have HST := Lib.hid hst; have HQ := Lib.hid hq
  clear hov hst hq
  go_enter Tryz.func30, Tryz.ntmps30
  go_upto_if 19 with (first
    | (go_at_call 73; refine HOV.out.mono ?_; rintro e w1 ⟨rfl, rfl⟩)
    | (go_at_call 145; refine HST.out.mono ?_; rintro e w2 ⟨rfl, h2⟩; have H2 := Lib.hid h2; clear h2))
  clear HOV
  have HOV := Lib.hid (over_no (HQ.out _ H2.out))
  go_wp2_with (go_at_call 73; refine HOV.out.mono ?_; rintro e w3 ⟨rfl, rfl⟩)
  go_ret
  exact ⟨rfl, H2.out⟩
set_option maxRecDepth 100000 in
set_option maxHeartbeats 4000000 in
theorem moreF {U : Nat} (c8 : w.cell? ⟨B, 8, none⟩ = some (.iface 73 (Pw U))) (hst : Calls Tryz.prog 151 #[Pw U, Pw WB] w fun e w' => e = .returned (.bool false) ∧ Q w') (hq : ∀ W, Q W → HasPart W B) :
    Calls Tryz.prog 30 #[Pw B, Pw WB] w fun e w' => e = .returned (.bool false) ∧ Q w' := by
  have hov := over_no ⟨_, _, c8⟩
  have hm := m_stepF ⟨U, 0, none⟩ w
  have HOV := Lib.hid hov; have HST := Lib.hid hst; have HQ := Lib.hid hq
  clear hov hst hq
  go_enter Tryz.func30, Tryz.ntmps30
  go_upto_if 19 with (first
    | (go_at_call 73; refine HOV.out.mono ?_; rintro e w1 ⟨rfl, rfl⟩)
    | (go_at_call 151; refine HST.out.mono ?_; rintro e w2 ⟨rfl, h2⟩; have H2 := Lib.hid h2; clear h2))
  clear HOV
  have HOV := Lib.hid (over_no (HQ.out _ H2.out))
  go_wp2_with (go_at_call 73; refine HOV.out.mono ?_; rintro e w3 ⟨rfl, rfl⟩)
  go_ret
  exact ⟨rfl, H2.out⟩
set_option maxRecDepth 100000 in
set_option maxHeartbeats 4000000 in
theorem moreS {U : Nat} (c8 : w.cell? ⟨B, 8, none⟩ = some (.iface 200 (Pw U))) (hst : Calls Tryz.prog 280 #[Pw U, Pw WB] w fun e w' => e = .returned (.bool false) ∧ Q w') (hq : ∀ W, Q W → HasPart W B) :
    Calls Tryz.prog 30 #[Pw B, Pw WB] w fun e w' => e = .returned (.bool false) ∧ Q w' := by
  have hov := over_no ⟨_, _, c8⟩
  have hm := m_stepS ⟨U, 0, none⟩ w
  have HOV := Lib.hid hov; have HST := Lib.hid hst; have HQ := Lib.hid hq
  clear hov hst hq
  go_enter Tryz.func30, Tryz.ntmps30
  go_upto_if 19 with (first
    | (go_at_call 73; refine HOV.out.mono ?_; rintro e w1 ⟨rfl, rfl⟩)
    | (go_at_call 280; refine HST.out.mono ?_; rintro e w2 ⟨rfl, h2⟩; have H2 := Lib.hid h2; clear h2))
  clear HOV
  have HOV := Lib.hid (over_no (HQ.out _ H2.out))
  go_wp2_with (go_at_call 73; refine HOV.out.mono ?_; rintro e w3 ⟨rfl, rfl⟩)
  go_ret
  exact ⟨rfl, H2.out⟩
set_option maxRecDepth 100000 in
set_option maxHeartbeats 4000000 in
theorem moreW {U : Nat} (c8 : w.cell? ⟨B, 8, none⟩ = some (.iface 390 (Pw U))) (hst : Calls Tryz.prog 311 #[Pw U, Pw WB] w fun e w' => e = .returned (.bool false) ∧ Q w') (hq : ∀ W, Q W → HasPart W B) :
    Calls Tryz.prog 30 #[Pw B, Pw WB] w fun e w' => e = .returned (.bool false) ∧ Q w' := by
  have hov := over_no ⟨_, _, c8⟩
  have hm := m_stepW ⟨U, 0, none⟩ w
  have HOV := Lib.hid hov; have HST := Lib.hid hst; have HQ := Lib.hid hq
  clear hov hst hq
  go_enter Tryz.func30, Tryz.ntmps30
  go_upto_if 19 with (first
    | (go_at_call 73; refine HOV.out.mono ?_; rintro e w1 ⟨rfl, rfl⟩)
    | (go_at_call 311; refine HST.out.mono ?_; rintro e w2 ⟨rfl, h2⟩; have H2 := Lib.hid h2; clear h2))
  clear HOV
  have HOV := Lib.hid (over_no (HQ.out _ H2.out))
  go_wp2_with (go_at_call 73; refine HOV.out.mono ?_; rintro e w3 ⟨rfl, rfl⟩)
  go_ret
  exact ⟨rfl, H2.out⟩
set_option maxRecDepth 100000 in
set_option maxHeartbeats 4000000 in
theorem doneE_ENTER1 {U c0 c1 : Nat} {ov : Bool} (c8 : w.cell? ⟨B, 8, none⟩ = some (.iface 70 (Pw U))) (hst : Calls Tryz.prog 145 #[Pw U, Pw WB] w fun e w' => e = .returned (.bool true) ∧ Q1 w') (hq1 : ∀ W, Q1 W → W.cell? ⟨B, 9, none⟩ = some (fnV 86 #[] #[Pw c0, Pw c1]) ∧ Calls Tryz.prog 86 #[Pw c0, Pw c1] W fun e w' => e = .returned (.tuple #[]) ∧ Q w') (hq : ∀ W, Q W → Calls Tryz.prog 73 #[Pw B] W fun e w' => e = .returned (.bool ov) ∧ W = w') :
    Calls Tryz.prog 30 #[Pw B, Pw WB] w fun e w' => e = .returned (.bool ov) ∧ Q w' := by
  have hov := over_no ⟨_, _, c8⟩
  have hm := m_stepE ⟨U, 0, none⟩ w
  have HOV := Lib.hid hov; have HST := Lib.hid hst; have HQ := Lib.hid hq; have HQ1 := Lib.hid hq1
  clear hov hst hq hq1
  go_enter Tryz.func30, Tryz.ntmps30
  go_upto_if 19 with (first
    | (go_at_call 73; refine HOV.out.mono ?_; rintro e w1 ⟨rfl, rfl⟩)
    | (go_at_call 145; refine HST.out.mono ?_; rintro e w2 ⟨rfl, h2⟩; have H2 := Lib.hid h2; clear h2))
  clear HOV
  have c9 := (HQ1.out _ H2.out).1
  have HB := Lib.hid (HQ1.out _ H2.out).2
  go_upto_region 3 with (go_at_call 86; refine HB.out.mono ?_; rintro e w3 ⟨rfl, h3⟩; have H3 := Lib.hid h3; clear h3)
  have HOV := Lib.hid (HQ.out _ H3.out)
  go_wp2_with (go_at_call 73; refine HOV.out.mono ?_; rintro e w4 ⟨rfl, rfl⟩)
  go_ret
  exact ⟨rfl, H3.out⟩
set_option maxRecDepth 100000 in
set_option maxHeartbeats 4000000 in
theorem doneL_VAL1 {U c0 c1 : Nat} {ov : Bool} (c8 : w.cell? ⟨B, 8, none⟩ = some (.iface 420 (Pw U))) (hst : Calls Tryz.prog 309 #[Pw U, Pw WB] w fun e w' => e = .returned (.bool true) ∧ Q1 w') (hq1 : ∀ W, Q1 W → W.cell? ⟨B, 9, none⟩ = some (fnV 133 #[] #[Pw c0, Pw c1]) ∧ Calls Tryz.prog 133 #[Pw c0, Pw c1] W fun e w' => e = .returned (.tuple #[]) ∧ Q w') (hq : ∀ W, Q W → Calls Tryz.prog 73 #[Pw B] W fun e w' => e = .returned (.bool ov) ∧ W = w') :
    Calls Tryz.prog 30 #[Pw B, Pw WB] w fun e w' => e = .returned (.bool ov) ∧ Q w' := by
  have hov := over_no ⟨_, _, c8⟩
  have hm := m_stepL ⟨U, 0, none⟩ w
  have HOV := Lib.hid hov; have HST := Lib.hid hst; have HQ := Lib.hid hq; have HQ1 := Lib.hid hq1
  clear hov hst hq hq1
  go_enter Tryz.func30, Tryz.ntmps30
  go_upto_if 19 with (first
    | (go_at_call 73; refine HOV.out.mono ?_; rintro e w1 ⟨rfl, rfl⟩)
    | (go_at_call 309; refine HST.out.mono ?_; rintro e w2 ⟨rfl, h2⟩; have H2 := Lib.hid h2; clear h2))
  clear HOV
  have c9 := (HQ1.out _ H2.out).1
  have HB := Lib.hid (HQ1.out _ H2.out).2
  go_upto_region 3 with (go_at_call 133; refine HB.out.mono ?_; rintro e w3 ⟨rfl, h3⟩; have H3 := Lib.hid h3; clear h3)
  have HOV := Lib.hid (HQ.out _ H3.out)
  go_wp2_with (go_at_call 73; refine HOV.out.mono ?_; rintro e w4 ⟨rfl, rfl⟩)
  go_ret
  exact ⟨rfl, H3.out⟩
set_option maxRecDepth 100000 in
set_option maxHeartbeats 4000000 in
theorem doneO_QUEUE {U : Nat} {ov : Bool} (c8 : w.cell? ⟨B, 8, none⟩ = some (.iface 342 (Pw U))) (hst : Calls Tryz.prog 309 #[Pw U, Pw WB] w fun e w' => e = .returned (.bool true) ∧ Q1 w') (hq1 : ∀ W, Q1 W → W.cell? ⟨B, 9, none⟩ = some (fnV 160 #[Pw B] #[]) ∧ Calls Tryz.prog 160 #[Pw B] W fun e w' => e = .returned (.tuple #[]) ∧ Q w') (hq : ∀ W, Q W → Calls Tryz.prog 73 #[Pw B] W fun e w' => e = .returned (.bool ov) ∧ W = w') :
    Calls Tryz.prog 30 #[Pw B, Pw WB] w fun e w' => e = .returned (.bool ov) ∧ Q w' := by
  have hov := over_no ⟨_, _, c8⟩
  have hm := m_stepO ⟨U, 0, none⟩ w
  have HOV := Lib.hid hov; have HST := Lib.hid hst; have HQ := Lib.hid hq; have HQ1 := Lib.hid hq1
  clear hov hst hq hq1
  go_enter Tryz.func30, Tryz.ntmps30
  go_upto_if 19 with (first
    | (go_at_call 73; refine HOV.out.mono ?_; rintro e w1 ⟨rfl, rfl⟩)
    | (go_at_call 309; refine HST.out.mono ?_; rintro e w2 ⟨rfl, h2⟩; have H2 := Lib.hid h2; clear h2))
  clear HOV
  have c9 := (HQ1.out _ H2.out).1
  have HB := Lib.hid (HQ1.out _ H2.out).2
  go_upto_region 3 with (go_at_call 160; refine HB.out.mono ?_; rintro e w3 ⟨rfl, h3⟩; have H3 := Lib.hid h3; clear h3)
  have HOV := Lib.hid (HQ.out _ H3.out)
  go_wp2_with (go_at_call 73; refine HOV.out.mono ?_; rintro e w4 ⟨rfl, rfl⟩)
  go_ret
  exact ⟨rfl, H3.out⟩
set_option maxRecDepth 100000 in
set_option maxHeartbeats 4000000 in
theorem doneO_QUEUE2 {U c0 : Nat} {ov : Bool} (c8 : w.cell? ⟨B, 8, none⟩ = some (.iface 342 (Pw U))) (hst : Calls Tryz.prog 309 #[Pw U, Pw WB] w fun e w' => e = .returned (.bool true) ∧ Q1 w') (hq1 : ∀ W, Q1 W → W.cell? ⟨B, 9, none⟩ = some (fnV 186 #[] #[Pw c0]) ∧ Calls Tryz.prog 186 #[Pw c0] W fun e w' => e = .returned (.tuple #[]) ∧ Q w') (hq : ∀ W, Q W → Calls Tryz.prog 73 #[Pw B] W fun e w' => e = .returned (.bool ov) ∧ W = w') :
    Calls Tryz.prog 30 #[Pw B, Pw WB] w fun e w' => e = .returned (.bool ov) ∧ Q w' := by
  have hov := over_no ⟨_, _, c8⟩
  have hm := m_stepO ⟨U, 0, none⟩ w
  have HOV := Lib.hid hov; have HST := Lib.hid hst; have HQ := Lib.hid hq; have HQ1 := Lib.hid hq1
  clear hov hst hq hq1
  go_enter Tryz.func30, Tryz.ntmps30
  go_upto_if 19 with (first
    | (go_at_call 73; refine HOV.out.mono ?_; rintro e w1 ⟨rfl, rfl⟩)
    | (go_at_call 309; refine HST.out.mono ?_; rintro e w2 ⟨rfl, h2⟩; have H2 := Lib.hid h2; clear h2))
  clear HOV
  have c9 := (HQ1.out _ H2.out).1
  have HB := Lib.hid (HQ1.out _ H2.out).2
  go_upto_region 3 with (go_at_call 186; refine HB.out.mono ?_; rintro e w3 ⟨rfl, h3⟩; have H3 := Lib.hid h3; clear h3)
  have HOV := Lib.hid (HQ.out _ H3.out)
  go_wp2_with (go_at_call 73; refine HOV.out.mono ?_; rintro e w4 ⟨rfl, rfl⟩)
  go_ret
  exact ⟨rfl, H3.out⟩
set_option maxRecDepth 100000 in
set_option maxHeartbeats 4000000 in
theorem doneO_ASK2 {U c0 c1 c2 c3 : Nat} {ov : Bool} (c8 : w.cell? ⟨B, 8, none⟩ = some (.iface 342 (Pw U))) (hst : Calls Tryz.prog 309 #[Pw U, Pw WB] w fun e w' => e = .returned (.bool true) ∧ Q1 w') (hq1 : ∀ W, Q1 W → W.cell? ⟨B, 9, none⟩ = some (fnV 247 #[] #[Pw c0, Pw c1, Pw c2, Pw c3]) ∧ Calls Tryz.prog 247 #[Pw c0, Pw c1, Pw c2, Pw c3] W fun e w' => e = .returned (.tuple #[]) ∧ Q w') (hq : ∀ W, Q W → Calls Tryz.prog 73 #[Pw B] W fun e w' => e = .returned (.bool ov) ∧ W = w') :
    Calls Tryz.prog 30 #[Pw B, Pw WB] w fun e w' => e = .returned (.bool ov) ∧ Q w' := by
  have hov := over_no ⟨_, _, c8⟩
  have hm := m_stepO ⟨U, 0, none⟩ w
  have HOV := Lib.hid hov; have HST := Lib.hid hst; have HQ := Lib.hid hq; have HQ1 := Lib.hid hq1
  clear hov hst hq hq1
  go_enter Tryz.func30, Tryz.ntmps30
  go_upto_if 19 with (first
    | (go_at_call 73; refine HOV.out.mono ?_; rintro e w1 ⟨rfl, rfl⟩)
    | (go_at_call 309; refine HST.out.mono ?_; rintro e w2 ⟨rfl, h2⟩; have H2 := Lib.hid h2; clear h2))
  clear HOV
  have c9 := (HQ1.out _ H2.out).1
  have HB := Lib.hid (HQ1.out _ H2.out).2
  go_upto_region 3 with (go_at_call 247; refine HB.out.mono ?_; rintro e w3 ⟨rfl, h3⟩; have H3 := Lib.hid h3; clear h3)
  have HOV := Lib.hid (HQ.out _ H3.out)
  go_wp2_with (go_at_call 73; refine HOV.out.mono ?_; rintro e w4 ⟨rfl, rfl⟩)
  go_ret
  exact ⟨rfl, H3.out⟩
set_option maxRecDepth 100000 in
set_option maxHeartbeats 4000000 in
theorem doneO_LATE1 {U c0 : Nat} {ov : Bool} (c8 : w.cell? ⟨B, 8, none⟩ = some (.iface 342 (Pw U))) (hst : Calls Tryz.prog 309 #[Pw U, Pw WB] w fun e w' => e = .returned (.bool true) ∧ Q1 w') (hq1 : ∀ W, Q1 W → W.cell? ⟨B, 9, none⟩ = some (fnV 250 #[] #[Pw c0]) ∧ Calls Tryz.prog 250 #[Pw c0] W fun e w' => e = .returned (.tuple #[]) ∧ Q w') (hq : ∀ W, Q W → Calls Tryz.prog 73 #[Pw B] W fun e w' => e = .returned (.bool ov) ∧ W = w') :
    Calls Tryz.prog 30 #[Pw B, Pw WB] w fun e w' => e = .returned (.bool ov) ∧ Q w' := by
  have hov := over_no ⟨_, _, c8⟩
  have hm := m_stepO ⟨U, 0, none⟩ w
  have HOV := Lib.hid hov; have HST := Lib.hid hst; have HQ := Lib.hid hq; have HQ1 := Lib.hid hq1
  clear hov hst hq hq1
  go_enter Tryz.func30, Tryz.ntmps30
  go_upto_if 19 with (first
    | (go_at_call 73; refine HOV.out.mono ?_; rintro e w1 ⟨rfl, rfl⟩)
    | (go_at_call 309; refine HST.out.mono ?_; rintro e w2 ⟨rfl, h2⟩; have H2 := Lib.hid h2; clear h2))
  clear HOV
  have c9 := (HQ1.out _ H2.out).1
  have HB := Lib.hid (HQ1.out _ H2.out).2
  go_upto_region 3 with (go_at_call 250; refine HB.out.mono ?_; rintro e w3 ⟨rfl, h3⟩; have H3 := Lib.hid h3; clear h3)
  have HOV := Lib.hid (HQ.out _ H3.out)
  go_wp2_with (go_at_call 73; refine HOV.out.mono ?_; rintro e w4 ⟨rfl, rfl⟩)
  go_ret
  exact ⟨rfl, H3.out⟩
set_option maxRecDepth 100000 in
set_option maxHeartbeats 4000000 in
theorem doneF_LEAVE1 {U c0 c1 : Nat} {ov : Bool} (c8 : w.cell? ⟨B, 8, none⟩ = some (.iface 73 (Pw U))) (hst : Calls Tryz.prog 151 #[Pw U, Pw WB] w fun e w' => e = .returned (.bool true) ∧ Q1 w') (hq1 : ∀ W, Q1 W → W.cell? ⟨B, 9, none⟩ = some (fnV 162 #[] #[Pw c0, Pw c1]) ∧ Calls Tryz.prog 162 #[Pw c0, Pw c1] W fun e w' => e = .returned (.tuple #[]) ∧ Q w') (hq : ∀ W, Q W → Calls Tryz.prog 73 #[Pw B] W fun e w' => e = .returned (.bool ov) ∧ W = w') :
    Calls Tryz.prog 30 #[Pw B, Pw WB] w fun e w' => e = .returned (.bool ov) ∧ Q w' := by
  have hov := over_no ⟨_, _, c8⟩
  have hm := m_stepF ⟨U, 0, none⟩ w
  have HOV := Lib.hid hov; have HST := Lib.hid hst; have HQ := Lib.hid hq; have HQ1 := Lib.hid hq1
  clear hov hst hq hq1
  go_enter Tryz.func30, Tryz.ntmps30
  go_upto_if 19 with (first
    | (go_at_call 73; refine HOV.out.mono ?_; rintro e w1 ⟨rfl, rfl⟩)
    | (go_at_call 151; refine HST.out.mono ?_; rintro e w2 ⟨rfl, h2⟩; have H2 := Lib.hid h2; clear h2))
  clear HOV
  have c9 := (HQ1.out _ H2.out).1
  have HB := Lib.hid (HQ1.out _ H2.out).2
  go_upto_region 3 with (go_at_call 162; refine HB.out.mono ?_; rintro e w3 ⟨rfl, h3⟩; have H3 := Lib.hid h3; clear h3)
  have HOV := Lib.hid (HQ.out _ H3.out)
  go_wp2_with (go_at_call 73; refine HOV.out.mono ?_; rintro e w4 ⟨rfl, rfl⟩)
  go_ret
  exact ⟨rfl, H3.out⟩
set_option maxRecDepth 100000 in
set_option maxHeartbeats 4000000 in
theorem doneF_BEFORE {U : Nat} {ov : Bool} (c8 : w.cell? ⟨B, 8, none⟩ = some (.iface 73 (Pw U))) (hst : Calls Tryz.prog 151 #[Pw U, Pw WB] w fun e w' => e = .returned (.bool true) ∧ Q1 w') (hq1 : ∀ W, Q1 W → W.cell? ⟨B, 9, none⟩ = some (fnV 187 #[Pw B] #[]) ∧ Calls Tryz.prog 187 #[Pw B] W fun e w' => e = .returned (.tuple #[]) ∧ Q w') (hq : ∀ W, Q W → Calls Tryz.prog 73 #[Pw B] W fun e w' => e = .returned (.bool ov) ∧ W = w') :
    Calls Tryz.prog 30 #[Pw B, Pw WB] w fun e w' => e = .returned (.bool ov) ∧ Q w' := by
  have hov := over_no ⟨_, _, c8⟩
  have hm := m_stepF ⟨U, 0, none⟩ w
  have HOV := Lib.hid hov; have HST := Lib.hid hst; have HQ := Lib.hid hq; have HQ1 := Lib.hid hq1
  clear hov hst hq hq1
  go_enter Tryz.func30, Tryz.ntmps30
  go_upto_if 19 with (first
    | (go_at_call 73; refine HOV.out.mono ?_; rintro e w1 ⟨rfl, rfl⟩)
    | (go_at_call 151; refine HST.out.mono ?_; rintro e w2 ⟨rfl, h2⟩; have H2 := Lib.hid h2; clear h2))
  clear HOV
  have c9 := (HQ1.out _ H2.out).1
  have HB := Lib.hid (HQ1.out _ H2.out).2
  go_upto_region 3 with (go_at_call 187; refine HB.out.mono ?_; rintro e w3 ⟨rfl, h3⟩; have H3 := Lib.hid h3; clear h3)
  have HOV := Lib.hid (HQ.out _ H3.out)
  go_wp2_with (go_at_call 73; refine HOV.out.mono ?_; rintro e w4 ⟨rfl, rfl⟩)
  go_ret
  exact ⟨rfl, H3.out⟩
set_option maxRecDepth 100000 in
set_option maxHeartbeats 4000000 in
theorem doneS_SLEEP1 {U c0 c1 : Nat} {ov : Bool} (c8 : w.cell? ⟨B, 8, none⟩ = some (.iface 200 (Pw U))) (hst : Calls Tryz.prog 280 #[Pw U, Pw WB] w fun e w' => e = .returned (.bool true) ∧ Q1 w') (hq1 : ∀ W, Q1 W → W.cell? ⟨B, 9, none⟩ = some (fnV 233 #[] #[Pw c0, Pw c1]) ∧ Calls Tryz.prog 233 #[Pw c0, Pw c1] W fun e w' => e = .returned (.tuple #[]) ∧ Q w') (hq : ∀ W, Q W → Calls Tryz.prog 73 #[Pw B] W fun e w' => e = .returned (.bool ov) ∧ W = w') :
    Calls Tryz.prog 30 #[Pw B, Pw WB] w fun e w' => e = .returned (.bool ov) ∧ Q w' := by
  have hov := over_no ⟨_, _, c8⟩
  have hm := m_stepS ⟨U, 0, none⟩ w
  have HOV := Lib.hid hov; have HST := Lib.hid hst; have HQ := Lib.hid hq; have HQ1 := Lib.hid hq1
  clear hov hst hq hq1
  go_enter Tryz.func30, Tryz.ntmps30
  go_upto_if 19 with (first
    | (go_at_call 73; refine HOV.out.mono ?_; rintro e w1 ⟨rfl, rfl⟩)
    | (go_at_call 280; refine HST.out.mono ?_; rintro e w2 ⟨rfl, h2⟩; have H2 := Lib.hid h2; clear h2))
  clear HOV
  have c9 := (HQ1.out _ H2.out).1
  have HB := Lib.hid (HQ1.out _ H2.out).2
  go_upto_region 3 with (go_at_call 233; refine HB.out.mono ?_; rintro e w3 ⟨rfl, h3⟩; have H3 := Lib.hid h3; clear h3)
  have HOV := Lib.hid (HQ.out _ H3.out)
  go_wp2_with (go_at_call 73; refine HOV.out.mono ?_; rintro e w4 ⟨rfl, rfl⟩)
  go_ret
  exact ⟨rfl, H3.out⟩
set_option maxRecDepth 100000 in
set_option maxHeartbeats 4000000 in
theorem doneW_OWN1 {U c0 c1 : Nat} {ov : Bool} (c8 : w.cell? ⟨B, 8, none⟩ = some (.iface 390 (Pw U))) (hst : Calls Tryz.prog 311 #[Pw U, Pw WB] w fun e w' => e = .returned (.bool true) ∧ Q1 w') (hq1 : ∀ W, Q1 W → W.cell? ⟨B, 9, none⟩ = some (fnV 241 #[] #[Pw c0, Pw c1]) ∧ Calls Tryz.prog 241 #[Pw c0, Pw c1] W fun e w' => e = .returned (.tuple #[]) ∧ Q w') (hq : ∀ W, Q W → Calls Tryz.prog 73 #[Pw B] W fun e w' => e = .returned (.bool ov) ∧ W = w') :
    Calls Tryz.prog 30 #[Pw B, Pw WB] w fun e w' => e = .returned (.bool ov) ∧ Q w' := by
  have hov := over_no ⟨_, _, c8⟩
  have hm := m_stepW ⟨U, 0, none⟩ w
  have HOV := Lib.hid hov; have HST := Lib.hid hst; have HQ := Lib.hid hq; have HQ1 := Lib.hid hq1
  clear hov hst hq hq1
  go_enter Tryz.func30, Tryz.ntmps30
  go_upto_if 19 with (first
    | (go_at_call 73; refine HOV.out.mono ?_; rintro e w1 ⟨rfl, rfl⟩)
    | (go_at_call 311; refine HST.out.mono ?_; rintro e w2 ⟨rfl, h2⟩; have H2 := Lib.hid h2; clear h2))
  clear HOV
  have c9 := (HQ1.out _ H2.out).1
  have HB := Lib.hid (HQ1.out _ H2.out).2
  go_upto_region 3 with (go_at_call 241; refine HB.out.mono ?_; rintro e w3 ⟨rfl, h3⟩; have H3 := Lib.hid h3; clear h3)
  have HOV := Lib.hid (HQ.out _ H3.out)
  go_wp2_with (go_at_call 73; refine HOV.out.mono ?_; rintro e w4 ⟨rfl, rfl⟩)
  go_ret
  exact ⟨rfl, H3.out⟩
end
end Go.Proofs.YtjppncglkijbjaaGreatDoor.S18
