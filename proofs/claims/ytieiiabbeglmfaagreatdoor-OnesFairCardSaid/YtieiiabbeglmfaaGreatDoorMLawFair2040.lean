/- Texts of this seat, one behind the other. -/
import Derived.Test.YtieiiabbeglmfaaGreatDoorMLawFair201
import Derived.Test.YtieiiabbeglmfaaGreatDoorMLawFair2038
import Derived.Test.YtieiiabbeglmfaaGreatDoorMLawFair2039
set_option linter.unusedVariables false
set_option linter.unusedSimpArgs false
set_option linter.unusedVariables false
set_option linter.unusedSimpArgs false
set_option linter.unusedVariables false
set_option linter.unusedSimpArgs false
namespace Go.Proofs.YtieiiabbeglmfaaGreatDoor.S18
set_option maxRecDepth 100000
set_option maxHeartbeats 16000000
open Go.Proofs.YtieiiabbeglmfaaGreatDoor Go.Proofs.YtieiiabbeglmfaaGreatDoor.S11 Go.Proofs.YtieiiabbeglmfaaGreatDoor.S12 Go.Proofs.YtieiiabbeglmfaaGreatDoor.S13 Go.Proofs.YtieiiabbeglmfaaGreatDoor.S14 Go.Proofs.YtieiiabbeglmfaaGreatDoor.S15 Go.Proofs.YtieiiabbeglmfaaGreatDoor.S16
open Go.RowKit
section
variable {w0 w w' : World} {base WB : Nat} {M : Sd} {r : List Part} {j e u B : Nat} {l l' : Rows} {X : Wm} {D : Pd} {pb pi : Int} {p b : Value} {o : Nat}
theorem clate1_ {CB kc ca cl cn cc : Nat} (h : Wq w0 w base WB M r j l X) (hc : l[kc]? = some (CB, ckO ⟨ca, cl, cn, cc⟩)) (ha : ca < 4294967296) (hcc : cc < 18446744073709551616) (hn : M.n ≤ 1000000000) :
    Calls Tryz.prog 311 #[Pw WB, Pw CB] w fun e' w' => e' = .returned (.tuple #[]) ∧ ∃ X', Wq w0 w' base WB (M.acc 6 ca (S2.look M.L ca &&& S2.cpl cc)) r j l X' := by
  have y1 : w.cell? ⟨CB, 0, none⟩ = some (.int .u32 (ca : Int)) := cell_row (h.blk kc hc) 0
  have y2 : w.cell? ⟨CB, 3, none⟩ = some (.int .u64 (cc : Int)) := cell_row (h.blk kc hc) 3
  have hc0 := h.pg.c.1
  obtain ⟨cb, hcb⟩ : ∃ cb, X.cB = cb := ⟨_, rfl⟩
  rw [hcb] at hc0
  have hcl := S2.cpl_lt cc
  have han := S14.pg_and (h.new (Below.refl _ w).drew).pg (a := ca) (v := S2.cpl cc) ha hcl hn
  rw [hcb] at han
  have e1 : bits .xor .u64 (if IntKind.u64.signed = true then -1 else IntKind.u64.max) (cc : Int) = ((S2.cpl cc : Nat) : Int) := by rw [if_neg (by decide)]; exact S2.bits_not cc hcc
  generalize S2.cpl cc = cp at *
  generalize S2.look M.L ca &&& cp = u0 at *
  have HAN := Lib.hid han; have H := Lib.hid h; have HCR := Lib.hid hc
  clear h hc ha hn hcb han hcl hcc
  go_enter Tryz.func311, Tryz.ntmps311
  refine wp_region_held_drew (S := fun w' => w'.cell? ⟨WB, 0, none⟩ = some (Pw cb) ∧ w'.cell? ⟨CB, 0, none⟩ = some (.int .u32 (ca : Int)) ∧ w'.cell? ⟨CB, 3, none⟩ = some (.int .u64 (cc : Int))) (by kernel_rfl) ?_ (fun hHeld => ?_)
  · exact ⟨hc0, y1, y2⟩
  refine tA 0 ⟨some 3, .move (.tmp 0), 24, "hooks.go:77", #[], none⟩ ?vkcm1 ?rkcm1
  (try simp only [Act.put, tC, tD, tE])
  refine tA 1 ⟨some 4, .nilCheck (.tmp 3), 0, "hooks.go:77", #[⟨0, .data⟩], none⟩ ?vkcm2 ?rkcm2
  (try simp only [Act.put, tC, tD, tE])
  refine tA 2 ⟨some 5, .fieldAddr 47 (.tmp 4) 0, 0, "hooks.go:77", #[⟨1, .data⟩], none⟩ ?vkcm3 ?rkcm3
  (try simp only [Act.put, tC, tD, tE])
  refine tA 3 ⟨some 6, .load 39 (.tmp 5), 39, "hooks.go:77", #[⟨2, .data⟩], none⟩ ?vkcm4 ?rkcm4
  (try simp only [Act.put, tC, tD, tE])
  refine tA 4 ⟨some 7, .fieldAddr 439 (.tmp 1) 0, 0, "hooks.go:77", #[], none⟩ ?vkcm5 ?rkcm5
  (try simp only [Act.put, tC, tD, tE])
  refine tA 5 ⟨some 8, .load 35 (.tmp 7), 35, "hooks.go:77", #[⟨4, .data⟩], none⟩ ?vkcm6 ?rkcm6
  (try simp only [Act.put, tC, tD, tE])
  refine tA 6 ⟨some 9, .fieldAddr 439 (.tmp 1) 3, 0, "hooks.go:77", #[], none⟩ ?vkcm7 ?rkcm7
  (try simp only [Act.put, tC, tD, tE])
  refine tA 7 ⟨some 10, .load 23 (.tmp 9), 23, "hooks.go:77", #[⟨6, .data⟩], none⟩ ?vkcm8 ?rkcm8
  (try simp only [Act.put, tC, tD, tE])
  refine tA 8 ⟨some 11, .unOp .xor 23 (.tmp 10), 23, "hooks.go:77", #[⟨7, .data⟩], none⟩ ?vkcm9 ?rkcm9
  (try simp only [Act.put, tC, tD, tE])
  refine wpAnyH_ready (rs := [9]) (by kernel_rfl) (by simp) ?_
  refine AllReadyH.cons (o := ⟨some 12, .call ⟨.value (.func 209), #[.tmp 6, .tmp 8, .tmp 11], #[39, 35, 23]⟩, 23, "hooks.go:77", #[⟨3, .data⟩, ⟨5, .data⟩, ⟨8, .data⟩], none⟩) rfl (fun Kq hKq => ?_) AllReadyH.nil
  go_simp
  (refine HAN.out.mono ?_; rintro e' w2 ⟨rfl, X2, h2, hc2⟩; have H2 := Lib.hid (H.out.pgq h2); have HC2 := Lib.hid hc2; clear h2 hc2)
  refine hKq.out _ _ ?_ (fun hHeld => ?_)
  · exact ⟨by rw [← HC2.out]; exact H2.out.pg.c.1, cell_row (H2.out.blk kc HCR.out) 0, cell_row (H2.out.blk kc HCR.out) 3⟩
  clear hKq Kq
  (try simp only [Act.put, tC, tD, tE])
  refine wpAnyH_done (by kernel_rfl) ?_ _
  go_end0
  exact ⟨rfl, X2, H2.out⟩
end
end Go.Proofs.YtieiiabbeglmfaaGreatDoor.S18
set_option linter.unusedVariables false
set_option linter.unusedSimpArgs false
namespace Go.Proofs.YtieiiabbeglmfaaGreatDoor.S18
set_option maxRecDepth 100000
set_option maxHeartbeats 16000000
open Go.Proofs.YtieiiabbeglmfaaGreatDoor Go.Proofs.YtieiiabbeglmfaaGreatDoor.S11 Go.Proofs.YtieiiabbeglmfaaGreatDoor.S12 Go.Proofs.YtieiiabbeglmfaaGreatDoor.S13 Go.Proofs.YtieiiabbeglmfaaGreatDoor.S14 Go.Proofs.YtieiiabbeglmfaaGreatDoor.S15 Go.Proofs.YtieiiabbeglmfaaGreatDoor.S16
open Go.RowKit
theorem m_stepE (a : Addr) (w : World) : (method 558 70 (.pointer (some a)) "Step").run Tryz.prog w = .ok (145, .pointer (some a)) w := by kernel_rfl
theorem m_stepL (a : Addr) (w : World) : (method 558 440 (.pointer (some a)) "Step").run Tryz.prog w = .ok (332, .pointer (some a)) w := by kernel_rfl
theorem m_stepO (a : Addr) (w : World) : (method 558 372 (.pointer (some a)) "Step").run Tryz.prog w = .ok (332, .pointer (some a)) w := by kernel_rfl
theorem m_stepF (a : Addr) (w : World) : (method 558 73 (.pointer (some a)) "Step").run Tryz.prog w = .ok (151, .pointer (some a)) w := by kernel_rfl
theorem m_stepS (a : Addr) (w : World) : (method 558 215 (.pointer (some a)) "Step").run Tryz.prog w = .ok (303, .pointer (some a)) w := by kernel_rfl
theorem m_stepW (a : Addr) (w : World) : (method 558 411 (.pointer (some a)) "Step").run Tryz.prog w = .ok (334, .pointer (some a)) w := by kernel_rfl
theorem eqPN (T : TypeId) (v : Value) (w : World) : (binOp .eql 72 (.iface T v) .nilIface).run Tryz.prog w = .ok (.bool false) w := by kernel_rfl
def HasPart (w : World) (B : Nat) : Prop := ∃ T v, w.cell? ⟨B, 8, none⟩ = some (.iface T v)
theorem over_no {w : World} {B : Nat} (h : HasPart w B) : Calls Tryz.prog 81 #[Pw B] w fun e w' => e = .returned (.bool false) ∧ w = w' := by
  obtain ⟨T, v, c8⟩ := h
  have e1 := eqPN T v
  go_enter Tryz.func81, Tryz.ntmps81
  go_wp2_with fail
  go_ret
  exact ⟨rfl, rfl⟩
theorem over_yes {w : World} {B : Nat} (c8 : w.cell? ⟨B, 8, none⟩ = some .nilIface) : Calls Tryz.prog 81 #[Pw B] w fun e w' => e = .returned (.bool true) ∧ w = w' := by
  have e1 := eqI0
  go_enter Tryz.func81, Tryz.ntmps81
  go_wp2_with fail
  go_ret
  exact ⟨rfl, rfl⟩
section
variable {w : World} {B WB : Nat} {Q Q1 : World → Prop}
theorem moreE {U : Nat} (c8 : w.cell? ⟨B, 8, none⟩ = some (.iface 70 (Pw U))) (hst : Calls Tryz.prog 145 #[Pw U, Pw WB] w fun e w' => e = .returned (.bool false) ∧ Q w') (hq : ∀ W, Q W → HasPart W B) :
    Calls Tryz.prog 31 #[Pw B, Pw WB] w fun e w' => e = .returned (.bool false) ∧ Q w' := by
  have hov := over_no ⟨_, _, c8⟩
  have hm := m_stepE ⟨U, 0, none⟩ w
  have HOV := Lib.hid hov; have HST := Lib.hid hst; have HQ := Lib.hid hq
  clear hov hst hq
  go_enter Tryz.func31, Tryz.ntmps31
  go_upto_if 19 with (first
    | (go_at_call 81; refine HOV.out.mono ?_; rintro e w1 ⟨rfl, rfl⟩)
    | (go_at_call 145; refine HST.out.mono ?_; rintro e w2 ⟨rfl, h2⟩; have H2 := Lib.hid h2; clear h2))
  clear HOV
  have HOV := Lib.hid (over_no (HQ.out _ H2.out))
  go_wp2_with (go_at_call 81; refine HOV.out.mono ?_; rintro e w3 ⟨rfl, rfl⟩)
  go_ret
  exact ⟨rfl, H2.out⟩
theorem moreF {U : Nat} (c8 : w.cell? ⟨B, 8, none⟩ = some (.iface 73 (Pw U))) (hst : Calls Tryz.prog 151 #[Pw U, Pw WB] w fun e w' => e = .returned (.bool false) ∧ Q w') (hq : ∀ W, Q W → HasPart W B) :
    Calls Tryz.prog 31 #[Pw B, Pw WB] w fun e w' => e = .returned (.bool false) ∧ Q w' := by
  have hov := over_no ⟨_, _, c8⟩
  have hm := m_stepF ⟨U, 0, none⟩ w
  have HOV := Lib.hid hov; have HST := Lib.hid hst; have HQ := Lib.hid hq
  clear hov hst hq
  go_enter Tryz.func31, Tryz.ntmps31
  go_upto_if 19 with (first
    | (go_at_call 81; refine HOV.out.mono ?_; rintro e w1 ⟨rfl, rfl⟩)
    | (go_at_call 151; refine HST.out.mono ?_; rintro e w2 ⟨rfl, h2⟩; have H2 := Lib.hid h2; clear h2))
  clear HOV
  have HOV := Lib.hid (over_no (HQ.out _ H2.out))
  go_wp2_with (go_at_call 81; refine HOV.out.mono ?_; rintro e w3 ⟨rfl, rfl⟩)
  go_ret
  exact ⟨rfl, H2.out⟩
theorem moreS {U : Nat} (c8 : w.cell? ⟨B, 8, none⟩ = some (.iface 215 (Pw U))) (hst : Calls Tryz.prog 303 #[Pw U, Pw WB] w fun e w' => e = .returned (.bool false) ∧ Q w') (hq : ∀ W, Q W → HasPart W B) :
    Calls Tryz.prog 31 #[Pw B, Pw WB] w fun e w' => e = .returned (.bool false) ∧ Q w' := by
  have hov := over_no ⟨_, _, c8⟩
  have hm := m_stepS ⟨U, 0, none⟩ w
  have HOV := Lib.hid hov; have HST := Lib.hid hst; have HQ := Lib.hid hq
  clear hov hst hq
  go_enter Tryz.func31, Tryz.ntmps31
  go_upto_if 19 with (first
    | (go_at_call 81; refine HOV.out.mono ?_; rintro e w1 ⟨rfl, rfl⟩)
    | (go_at_call 303; refine HST.out.mono ?_; rintro e w2 ⟨rfl, h2⟩; have H2 := Lib.hid h2; clear h2))
  clear HOV
  have HOV := Lib.hid (over_no (HQ.out _ H2.out))
  go_wp2_with (go_at_call 81; refine HOV.out.mono ?_; rintro e w3 ⟨rfl, rfl⟩)
  go_ret
  exact ⟨rfl, H2.out⟩
theorem moreW {U : Nat} (c8 : w.cell? ⟨B, 8, none⟩ = some (.iface 411 (Pw U))) (hst : Calls Tryz.prog 334 #[Pw U, Pw WB] w fun e w' => e = .returned (.bool false) ∧ Q w') (hq : ∀ W, Q W → HasPart W B) :
    Calls Tryz.prog 31 #[Pw B, Pw WB] w fun e w' => e = .returned (.bool false) ∧ Q w' := by
  have hov := over_no ⟨_, _, c8⟩
  have hm := m_stepW ⟨U, 0, none⟩ w
  have HOV := Lib.hid hov; have HST := Lib.hid hst; have HQ := Lib.hid hq
  clear hov hst hq
  go_enter Tryz.func31, Tryz.ntmps31
  go_upto_if 19 with (first
    | (go_at_call 81; refine HOV.out.mono ?_; rintro e w1 ⟨rfl, rfl⟩)
    | (go_at_call 334; refine HST.out.mono ?_; rintro e w2 ⟨rfl, h2⟩; have H2 := Lib.hid h2; clear h2))
  clear HOV
  have HOV := Lib.hid (over_no (HQ.out _ H2.out))
  go_wp2_with (go_at_call 81; refine HOV.out.mono ?_; rintro e w3 ⟨rfl, rfl⟩)
  go_ret
  exact ⟨rfl, H2.out⟩
theorem doneE_ENTER1 {U c0 c1 : Nat} {ov : Bool} (c8 : w.cell? ⟨B, 8, none⟩ = some (.iface 70 (Pw U))) (hst : Calls Tryz.prog 145 #[Pw U, Pw WB] w fun e w' => e = .returned (.bool true) ∧ Q1 w') (hq1 : ∀ W, Q1 W → W.cell? ⟨B, 9, none⟩ = some (fnV 101 #[] #[Pw c0, Pw c1]) ∧ Calls Tryz.prog 101 #[Pw c0, Pw c1] W fun e w' => e = .returned (.tuple #[]) ∧ Q w') (hq : ∀ W, Q W → Calls Tryz.prog 81 #[Pw B] W fun e w' => e = .returned (.bool ov) ∧ W = w') :
    Calls Tryz.prog 31 #[Pw B, Pw WB] w fun e w' => e = .returned (.bool ov) ∧ Q w' := by
  have hov := over_no ⟨_, _, c8⟩
  have hm := m_stepE ⟨U, 0, none⟩ w
  have HOV := Lib.hid hov; have HST := Lib.hid hst; have HQ := Lib.hid hq; have HQ1 := Lib.hid hq1
  clear hov hst hq hq1
  go_enter Tryz.func31, Tryz.ntmps31
  go_upto_if 19 with (first
    | (go_at_call 81; refine HOV.out.mono ?_; rintro e w1 ⟨rfl, rfl⟩)
    | (go_at_call 145; refine HST.out.mono ?_; rintro e w2 ⟨rfl, h2⟩; have H2 := Lib.hid h2; clear h2))
  clear HOV
  have c9 := (HQ1.out _ H2.out).1
  have HB := Lib.hid (HQ1.out _ H2.out).2
  go_upto_region 3 with (go_at_call 101; refine HB.out.mono ?_; rintro e w3 ⟨rfl, h3⟩; have H3 := Lib.hid h3; clear h3)
  have HOV := Lib.hid (HQ.out _ H3.out)
  go_wp2_with (go_at_call 81; refine HOV.out.mono ?_; rintro e w4 ⟨rfl, rfl⟩)
  go_ret
  exact ⟨rfl, H3.out⟩
theorem doneL_VAL1 {U c0 c1 : Nat} {ov : Bool} (c8 : w.cell? ⟨B, 8, none⟩ = some (.iface 440 (Pw U))) (hst : Calls Tryz.prog 332 #[Pw U, Pw WB] w fun e w' => e = .returned (.bool true) ∧ Q1 w') (hq1 : ∀ W, Q1 W → W.cell? ⟨B, 9, none⟩ = some (fnV 157 #[] #[Pw c0, Pw c1]) ∧ Calls Tryz.prog 157 #[Pw c0, Pw c1] W fun e w' => e = .returned (.tuple #[]) ∧ Q w') (hq : ∀ W, Q W → Calls Tryz.prog 81 #[Pw B] W fun e w' => e = .returned (.bool ov) ∧ W = w') :
    Calls Tryz.prog 31 #[Pw B, Pw WB] w fun e w' => e = .returned (.bool ov) ∧ Q w' := by
  have hov := over_no ⟨_, _, c8⟩
  have hm := m_stepL ⟨U, 0, none⟩ w
  have HOV := Lib.hid hov; have HST := Lib.hid hst; have HQ := Lib.hid hq; have HQ1 := Lib.hid hq1
  clear hov hst hq hq1
  go_enter Tryz.func31, Tryz.ntmps31
  go_upto_if 19 with (first
    | (go_at_call 81; refine HOV.out.mono ?_; rintro e w1 ⟨rfl, rfl⟩)
    | (go_at_call 332; refine HST.out.mono ?_; rintro e w2 ⟨rfl, h2⟩; have H2 := Lib.hid h2; clear h2))
  clear HOV
  have c9 := (HQ1.out _ H2.out).1
  have HB := Lib.hid (HQ1.out _ H2.out).2
  go_upto_region 3 with (go_at_call 157; refine HB.out.mono ?_; rintro e w3 ⟨rfl, h3⟩; have H3 := Lib.hid h3; clear h3)
  have HOV := Lib.hid (HQ.out _ H3.out)
  go_wp2_with (go_at_call 81; refine HOV.out.mono ?_; rintro e w4 ⟨rfl, rfl⟩)
  go_ret
  exact ⟨rfl, H3.out⟩
theorem doneO_QUEUE {U : Nat} {ov : Bool} (c8 : w.cell? ⟨B, 8, none⟩ = some (.iface 372 (Pw U))) (hst : Calls Tryz.prog 332 #[Pw U, Pw WB] w fun e w' => e = .returned (.bool true) ∧ Q1 w') (hq1 : ∀ W, Q1 W → W.cell? ⟨B, 9, none⟩ = some (fnV 187 #[Pw B] #[]) ∧ Calls Tryz.prog 187 #[Pw B] W fun e w' => e = .returned (.tuple #[]) ∧ Q w') (hq : ∀ W, Q W → Calls Tryz.prog 81 #[Pw B] W fun e w' => e = .returned (.bool ov) ∧ W = w') :
    Calls Tryz.prog 31 #[Pw B, Pw WB] w fun e w' => e = .returned (.bool ov) ∧ Q w' := by
  have hov := over_no ⟨_, _, c8⟩
  have hm := m_stepO ⟨U, 0, none⟩ w
  have HOV := Lib.hid hov; have HST := Lib.hid hst; have HQ := Lib.hid hq; have HQ1 := Lib.hid hq1
  clear hov hst hq hq1
  go_enter Tryz.func31, Tryz.ntmps31
  go_upto_if 19 with (first
    | (go_at_call 81; refine HOV.out.mono ?_; rintro e w1 ⟨rfl, rfl⟩)
    | (go_at_call 332; refine HST.out.mono ?_; rintro e w2 ⟨rfl, h2⟩; have H2 := Lib.hid h2; clear h2))
  clear HOV
  have c9 := (HQ1.out _ H2.out).1
  have HB := Lib.hid (HQ1.out _ H2.out).2
  go_upto_region 3 with (go_at_call 187; refine HB.out.mono ?_; rintro e w3 ⟨rfl, h3⟩; have H3 := Lib.hid h3; clear h3)
  have HOV := Lib.hid (HQ.out _ H3.out)
  go_wp2_with (go_at_call 81; refine HOV.out.mono ?_; rintro e w4 ⟨rfl, rfl⟩)
  go_ret
  exact ⟨rfl, H3.out⟩
theorem doneO_QUEUE2 {U c0 : Nat} {ov : Bool} (c8 : w.cell? ⟨B, 8, none⟩ = some (.iface 372 (Pw U))) (hst : Calls Tryz.prog 332 #[Pw U, Pw WB] w fun e w' => e = .returned (.bool true) ∧ Q1 w') (hq1 : ∀ W, Q1 W → W.cell? ⟨B, 9, none⟩ = some (fnV 219 #[] #[Pw c0]) ∧ Calls Tryz.prog 219 #[Pw c0] W fun e w' => e = .returned (.tuple #[]) ∧ Q w') (hq : ∀ W, Q W → Calls Tryz.prog 81 #[Pw B] W fun e w' => e = .returned (.bool ov) ∧ W = w') :
    Calls Tryz.prog 31 #[Pw B, Pw WB] w fun e w' => e = .returned (.bool ov) ∧ Q w' := by
  have hov := over_no ⟨_, _, c8⟩
  have hm := m_stepO ⟨U, 0, none⟩ w
  have HOV := Lib.hid hov; have HST := Lib.hid hst; have HQ := Lib.hid hq; have HQ1 := Lib.hid hq1
  clear hov hst hq hq1
  go_enter Tryz.func31, Tryz.ntmps31
  go_upto_if 19 with (first
    | (go_at_call 81; refine HOV.out.mono ?_; rintro e w1 ⟨rfl, rfl⟩)
    | (go_at_call 332; refine HST.out.mono ?_; rintro e w2 ⟨rfl, h2⟩; have H2 := Lib.hid h2; clear h2))
  clear HOV
  have c9 := (HQ1.out _ H2.out).1
  have HB := Lib.hid (HQ1.out _ H2.out).2
  go_upto_region 3 with (go_at_call 219; refine HB.out.mono ?_; rintro e w3 ⟨rfl, h3⟩; have H3 := Lib.hid h3; clear h3)
  have HOV := Lib.hid (HQ.out _ H3.out)
  go_wp2_with (go_at_call 81; refine HOV.out.mono ?_; rintro e w4 ⟨rfl, rfl⟩)
  go_ret
  exact ⟨rfl, H3.out⟩
theorem doneO_ASK2 {U c0 c1 c2 c3 : Nat} {ov : Bool} (c8 : w.cell? ⟨B, 8, none⟩ = some (.iface 372 (Pw U))) (hst : Calls Tryz.prog 332 #[Pw U, Pw WB] w fun e w' => e = .returned (.bool true) ∧ Q1 w') (hq1 : ∀ W, Q1 W → W.cell? ⟨B, 9, none⟩ = some (fnV 270 #[] #[Pw c0, Pw c1, Pw c2, Pw c3]) ∧ Calls Tryz.prog 270 #[Pw c0, Pw c1, Pw c2, Pw c3] W fun e w' => e = .returned (.tuple #[]) ∧ Q w') (hq : ∀ W, Q W → Calls Tryz.prog 81 #[Pw B] W fun e w' => e = .returned (.bool ov) ∧ W = w') :
    Calls Tryz.prog 31 #[Pw B, Pw WB] w fun e w' => e = .returned (.bool ov) ∧ Q w' := by
  have hov := over_no ⟨_, _, c8⟩
  have hm := m_stepO ⟨U, 0, none⟩ w
  have HOV := Lib.hid hov; have HST := Lib.hid hst; have HQ := Lib.hid hq; have HQ1 := Lib.hid hq1
  clear hov hst hq hq1
  go_enter Tryz.func31, Tryz.ntmps31
  go_upto_if 19 with (first
    | (go_at_call 81; refine HOV.out.mono ?_; rintro e w1 ⟨rfl, rfl⟩)
    | (go_at_call 332; refine HST.out.mono ?_; rintro e w2 ⟨rfl, h2⟩; have H2 := Lib.hid h2; clear h2))
  clear HOV
  have c9 := (HQ1.out _ H2.out).1
  have HB := Lib.hid (HQ1.out _ H2.out).2
  go_upto_region 3 with (go_at_call 270; refine HB.out.mono ?_; rintro e w3 ⟨rfl, h3⟩; have H3 := Lib.hid h3; clear h3)
  have HOV := Lib.hid (HQ.out _ H3.out)
  go_wp2_with (go_at_call 81; refine HOV.out.mono ?_; rintro e w4 ⟨rfl, rfl⟩)
  go_ret
  exact ⟨rfl, H3.out⟩
theorem doneO_LATE1 {U c0 : Nat} {ov : Bool} (c8 : w.cell? ⟨B, 8, none⟩ = some (.iface 372 (Pw U))) (hst : Calls Tryz.prog 332 #[Pw U, Pw WB] w fun e w' => e = .returned (.bool true) ∧ Q1 w') (hq1 : ∀ W, Q1 W → W.cell? ⟨B, 9, none⟩ = some (fnV 273 #[] #[Pw c0]) ∧ Calls Tryz.prog 273 #[Pw c0] W fun e w' => e = .returned (.tuple #[]) ∧ Q w') (hq : ∀ W, Q W → Calls Tryz.prog 81 #[Pw B] W fun e w' => e = .returned (.bool ov) ∧ W = w') :
    Calls Tryz.prog 31 #[Pw B, Pw WB] w fun e w' => e = .returned (.bool ov) ∧ Q w' := by
  have hov := over_no ⟨_, _, c8⟩
  have hm := m_stepO ⟨U, 0, none⟩ w
  have HOV := Lib.hid hov; have HST := Lib.hid hst; have HQ := Lib.hid hq; have HQ1 := Lib.hid hq1
  clear hov hst hq hq1
  go_enter Tryz.func31, Tryz.ntmps31
  go_upto_if 19 with (first
    | (go_at_call 81; refine HOV.out.mono ?_; rintro e w1 ⟨rfl, rfl⟩)
    | (go_at_call 332; refine HST.out.mono ?_; rintro e w2 ⟨rfl, h2⟩; have H2 := Lib.hid h2; clear h2))
  clear HOV
  have c9 := (HQ1.out _ H2.out).1
  have HB := Lib.hid (HQ1.out _ H2.out).2
  go_upto_region 3 with (go_at_call 273; refine HB.out.mono ?_; rintro e w3 ⟨rfl, h3⟩; have H3 := Lib.hid h3; clear h3)
  have HOV := Lib.hid (HQ.out _ H3.out)
  go_wp2_with (go_at_call 81; refine HOV.out.mono ?_; rintro e w4 ⟨rfl, rfl⟩)
  go_ret
  exact ⟨rfl, H3.out⟩
theorem doneF_LEAVE1 {U c0 c1 : Nat} {ov : Bool} (c8 : w.cell? ⟨B, 8, none⟩ = some (.iface 73 (Pw U))) (hst : Calls Tryz.prog 151 #[Pw U, Pw WB] w fun e w' => e = .returned (.bool true) ∧ Q1 w') (hq1 : ∀ W, Q1 W → W.cell? ⟨B, 9, none⟩ = some (fnV 189 #[] #[Pw c0, Pw c1]) ∧ Calls Tryz.prog 189 #[Pw c0, Pw c1] W fun e w' => e = .returned (.tuple #[]) ∧ Q w') (hq : ∀ W, Q W → Calls Tryz.prog 81 #[Pw B] W fun e w' => e = .returned (.bool ov) ∧ W = w') :
    Calls Tryz.prog 31 #[Pw B, Pw WB] w fun e w' => e = .returned (.bool ov) ∧ Q w' := by
  have hov := over_no ⟨_, _, c8⟩
  have hm := m_stepF ⟨U, 0, none⟩ w
  have HOV := Lib.hid hov; have HST := Lib.hid hst; have HQ := Lib.hid hq; have HQ1 := Lib.hid hq1
  clear hov hst hq hq1
  go_enter Tryz.func31, Tryz.ntmps31
  go_upto_if 19 with (first
    | (go_at_call 81; refine HOV.out.mono ?_; rintro e w1 ⟨rfl, rfl⟩)
    | (go_at_call 151; refine HST.out.mono ?_; rintro e w2 ⟨rfl, h2⟩; have H2 := Lib.hid h2; clear h2))
  clear HOV
  have c9 := (HQ1.out _ H2.out).1
  have HB := Lib.hid (HQ1.out _ H2.out).2
  go_upto_region 3 with (go_at_call 189; refine HB.out.mono ?_; rintro e w3 ⟨rfl, h3⟩; have H3 := Lib.hid h3; clear h3)
  have HOV := Lib.hid (HQ.out _ H3.out)
  go_wp2_with (go_at_call 81; refine HOV.out.mono ?_; rintro e w4 ⟨rfl, rfl⟩)
  go_ret
  exact ⟨rfl, H3.out⟩
theorem doneF_BEFORE {U : Nat} {ov : Bool} (c8 : w.cell? ⟨B, 8, none⟩ = some (.iface 73 (Pw U))) (hst : Calls Tryz.prog 151 #[Pw U, Pw WB] w fun e w' => e = .returned (.bool true) ∧ Q1 w') (hq1 : ∀ W, Q1 W → W.cell? ⟨B, 9, none⟩ = some (fnV 220 #[Pw B] #[]) ∧ Calls Tryz.prog 220 #[Pw B] W fun e w' => e = .returned (.tuple #[]) ∧ Q w') (hq : ∀ W, Q W → Calls Tryz.prog 81 #[Pw B] W fun e w' => e = .returned (.bool ov) ∧ W = w') :
    Calls Tryz.prog 31 #[Pw B, Pw WB] w fun e w' => e = .returned (.bool ov) ∧ Q w' := by
  have hov := over_no ⟨_, _, c8⟩
  have hm := m_stepF ⟨U, 0, none⟩ w
  have HOV := Lib.hid hov; have HST := Lib.hid hst; have HQ := Lib.hid hq; have HQ1 := Lib.hid hq1
  clear hov hst hq hq1
  go_enter Tryz.func31, Tryz.ntmps31
  go_upto_if 19 with (first
    | (go_at_call 81; refine HOV.out.mono ?_; rintro e w1 ⟨rfl, rfl⟩)
    | (go_at_call 151; refine HST.out.mono ?_; rintro e w2 ⟨rfl, h2⟩; have H2 := Lib.hid h2; clear h2))
  clear HOV
  have c9 := (HQ1.out _ H2.out).1
  have HB := Lib.hid (HQ1.out _ H2.out).2
  go_upto_region 3 with (go_at_call 220; refine HB.out.mono ?_; rintro e w3 ⟨rfl, h3⟩; have H3 := Lib.hid h3; clear h3)
  have HOV := Lib.hid (HQ.out _ H3.out)
  go_wp2_with (go_at_call 81; refine HOV.out.mono ?_; rintro e w4 ⟨rfl, rfl⟩)
  go_ret
  exact ⟨rfl, H3.out⟩
theorem doneS_SLEEP1 {U c0 c1 : Nat} {ov : Bool} (c8 : w.cell? ⟨B, 8, none⟩ = some (.iface 215 (Pw U))) (hst : Calls Tryz.prog 303 #[Pw U, Pw WB] w fun e w' => e = .returned (.bool true) ∧ Q1 w') (hq1 : ∀ W, Q1 W → W.cell? ⟨B, 9, none⟩ = some (fnV 258 #[] #[Pw c0, Pw c1]) ∧ Calls Tryz.prog 258 #[Pw c0, Pw c1] W fun e w' => e = .returned (.tuple #[]) ∧ Q w') (hq : ∀ W, Q W → Calls Tryz.prog 81 #[Pw B] W fun e w' => e = .returned (.bool ov) ∧ W = w') :
    Calls Tryz.prog 31 #[Pw B, Pw WB] w fun e w' => e = .returned (.bool ov) ∧ Q w' := by
  have hov := over_no ⟨_, _, c8⟩
  have hm := m_stepS ⟨U, 0, none⟩ w
  have HOV := Lib.hid hov; have HST := Lib.hid hst; have HQ := Lib.hid hq; have HQ1 := Lib.hid hq1
  clear hov hst hq hq1
  go_enter Tryz.func31, Tryz.ntmps31
  go_upto_if 19 with (first
    | (go_at_call 81; refine HOV.out.mono ?_; rintro e w1 ⟨rfl, rfl⟩)
    | (go_at_call 303; refine HST.out.mono ?_; rintro e w2 ⟨rfl, h2⟩; have H2 := Lib.hid h2; clear h2))
  clear HOV
  have c9 := (HQ1.out _ H2.out).1
  have HB := Lib.hid (HQ1.out _ H2.out).2
  go_upto_region 3 with (go_at_call 258; refine HB.out.mono ?_; rintro e w3 ⟨rfl, h3⟩; have H3 := Lib.hid h3; clear h3)
  have HOV := Lib.hid (HQ.out _ H3.out)
  go_wp2_with (go_at_call 81; refine HOV.out.mono ?_; rintro e w4 ⟨rfl, rfl⟩)
  go_ret
  exact ⟨rfl, H3.out⟩
theorem doneW_OWN1 {U c0 c1 : Nat} {ov : Bool} (c8 : w.cell? ⟨B, 8, none⟩ = some (.iface 411 (Pw U))) (hst : Calls Tryz.prog 334 #[Pw U, Pw WB] w fun e w' => e = .returned (.bool true) ∧ Q1 w') (hq1 : ∀ W, Q1 W → W.cell? ⟨B, 9, none⟩ = some (fnV 264 #[] #[Pw c0, Pw c1]) ∧ Calls Tryz.prog 264 #[Pw c0, Pw c1] W fun e w' => e = .returned (.tuple #[]) ∧ Q w') (hq : ∀ W, Q W → Calls Tryz.prog 81 #[Pw B] W fun e w' => e = .returned (.bool ov) ∧ W = w') :
    Calls Tryz.prog 31 #[Pw B, Pw WB] w fun e w' => e = .returned (.bool ov) ∧ Q w' := by
  have hov := over_no ⟨_, _, c8⟩
  have hm := m_stepW ⟨U, 0, none⟩ w
  have HOV := Lib.hid hov; have HST := Lib.hid hst; have HQ := Lib.hid hq; have HQ1 := Lib.hid hq1
  clear hov hst hq hq1
  go_enter Tryz.func31, Tryz.ntmps31
  go_upto_if 19 with (first
    | (go_at_call 81; refine HOV.out.mono ?_; rintro e w1 ⟨rfl, rfl⟩)
    | (go_at_call 334; refine HST.out.mono ?_; rintro e w2 ⟨rfl, h2⟩; have H2 := Lib.hid h2; clear h2))
  clear HOV
  have c9 := (HQ1.out _ H2.out).1
  have HB := Lib.hid (HQ1.out _ H2.out).2
  go_upto_region 3 with (go_at_call 264; refine HB.out.mono ?_; rintro e w3 ⟨rfl, h3⟩; have H3 := Lib.hid h3; clear h3)
  have HOV := Lib.hid (HQ.out _ H3.out)
  go_wp2_with (go_at_call 81; refine HOV.out.mono ?_; rintro e w4 ⟨rfl, rfl⟩)
  go_ret
  exact ⟨rfl, H3.out⟩
end
end Go.Proofs.YtieiiabbeglmfaaGreatDoor.S18
