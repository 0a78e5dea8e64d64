/- Texts of this seat, one behind the other. -/
import Derived.Test.YtieiiabbeglmfaaGreatDoorMLawOldest201
import Derived.Test.YtieiiabbeglmfaaGreatDoorMLawOldest2045
set_option linter.unusedVariables false
set_option linter.unusedSimpArgs false
set_option linter.unusedVariables false
set_option linter.unusedSimpArgs false
namespace Go.Proofs.YtieiiabbeglmfaaGreatDoor.S19
set_option maxRecDepth 100000
set_option maxHeartbeats 16000000
open Go.Proofs.YtieiiabbeglmfaaGreatDoor Go.Proofs.YtieiiabbeglmfaaGreatDoor.S11 Go.Proofs.YtieiiabbeglmfaaGreatDoor.S12 Go.Proofs.YtieiiabbeglmfaaGreatDoor.S13 Go.Proofs.YtieiiabbeglmfaaGreatDoor.S14 Go.Proofs.YtieiiabbeglmfaaGreatDoor.S15 Go.Proofs.YtieiiabbeglmfaaGreatDoor.S16 Go.Proofs.YtieiiabbeglmfaaGreatDoor.S18
open Go.RowKit
section
variable {w0 w w' : World} {base WB : Nat} {M M1 : Sd} {r : List Part} {j e u B : Nat} {X : Wm} {D : Od} {R R1 : Ro} {ln : Nat} {told : Bool} {en lv : Value} {E : En} {F : Fr} {Z : Wb} {Q : World → Prop}
attribute [local go_sem] onC
theorem behind_no (c5 : w.cell? ⟨B, 5, none⟩ = some (.int .i64 0)) : Calls Tryz.prog 170 #[Pw B] w fun e w' => e = .returned (.int .u8 4) ∧ w = w' := by
  go_enter Tryz.func170, Tryz.ntmps170
  go_wp2_with fail
  go_ret
  exact ⟨rfl, rfl⟩
theorem behind_yes (c5 : w.cell? ⟨B, 5, none⟩ = some (.int .i64 1)) : Calls Tryz.prog 170 #[Pw B] w fun e w' => e = .returned (.int .u8 3) ∧ w = w' := by
  go_enter Tryz.func170, Tryz.ntmps170
  go_wp2_with fail
  go_ret
  exact ⟨rfl, rfl⟩
theorem behind_any {m : Nat} {b : Bool} (c5 : w.cell? ⟨B, 5, none⟩ = some (.int .i64 (m : Int))) (hm : m = if b = true then 1 else 0) : Calls Tryz.prog 170 #[Pw B] w fun e w' => e = .returned (.int .u8 ((if b = true then 3 else 4 : Nat) : Int)) ∧ w = w' := by
  cases b
  · subst hm; exact behind_no c5
  · subst hm; exact behind_yes c5
theorem enter_n {ZB : Nat} (c10 : w.cell? ⟨B, 10, none⟩ = some (Pw ZB)) (hst : Calls Tryz.prog 145 #[Pw ZB, Pw WB] w fun e' w' => e' = .returned (.bool false) ∧ Q w') : Calls Tryz.prog 120 #[Pw B, Pw WB] w fun e' w' => e' = .returned (.int .u8 1) ∧ Q w' := by
  have HST := Lib.hid hst
  clear hst
  go_enter Tryz.func120, Tryz.ntmps120
  go_wp2_with (go_at_call 145; refine HST.out.mono ?_; rintro e w2 ⟨rfl, h2⟩; have H2 := Lib.hid h2; clear h2)
  go_ret
  exact ⟨rfl, H2.out⟩
theorem enter_y {b : Bool} {pb pi : Nat} (h : Wq w0 w base WB M r j [(B, onO 1 D false ro0 (Pw Z.B) (.pointer none))] X) (s : EwS r e u E Z) (hje : j ≠ e) (hju : j ≠ u) (heu : e ≠ u) (hu : u < r.length)
    (hst : Calls Tryz.prog 145 #[Pw Z.B, Pw WB] w fun e' w' => e' = .returned (.bool true) ∧ WayStep w0 w' base WB M r j e u [(B, onO 1 D false ro0 (Pw Z.B) (.pointer none))] E Z)
    (h0 : (enE M E).ln = 0) (hkw : (enE M E).kw = D.k) (hk : D.k < 4294967296) (how : (enE M E).ow = false) (hpb : pb = bitsN (enE M E).tw) (hpi : pi = bktN D.k (enE M E).tw)
    (htk : ∀ W r1 Z1 X1, Z1.B = Z.B → Wq w0 W base WB (enM M E) r1 j [(B, onO 1 D false ro0 (Pw Z.B) (.pointer none))] X1 → EwS r1 e u (enE M E) Z1 → Calls Tryz.prog 169 #[Pw B, Pw WB] W fun e' w' => e' = .returned (roV R1) ∧ ∃ X', Wq w0 w' base WB M1 r1 j [(B, onO 1 D false ro0 (Pw Z.B) (.pointer none))] X')
    (hm : R1.m = if b = true then 1 else 0) :
    Calls Tryz.prog 120 #[Pw B, Pw WB] w fun e' w' => e' = .returned (.int .u8 ((if b = true then 3 else 4 : Nat) : Int)) ∧ ∃ q1 q2 U X', Wq w0 w' base WB M1 (((r.set u q1).set e q2).set u (freeP U (fr0 (plA pb pi)))) j [(B, onO 1 D true R1 (Pw Z.B) (Pw U))] X' := by
  have c10 : w.cell? ⟨B, 10, none⟩ = some (Pw Z.B) := cell_row (h.blk 0 rfl) 10
  have hgot : ∀ W r1 Z1 X1 ll, Z1.B = Z.B → Wq w0 W base WB M1 r1 j ll X1 → EwS r1 e u (enE M E) Z1 → Calls Tryz.prog 102 #[Pw Z.B] W fun e w' => e = .returned (.agg #[.int .i64 (pb : Int), .int .i64 (pi : Int)]) ∧ Below W.heap.size W w' := fun W r1 Z1 X1 ll hz hW s1 => by
    obtain ⟨gb, gi⟩ := s1.pl (.inr h0)
    have := egot_yes (wq_ew hW s1 hje hju).wy (ews_got s1 h0)
    rw [gb, gi, hkw, Nat.mod_eq_of_lt hk, ← hpb, ← hpi, hz] at this
    exact this
  have hlk : ∀ W, Calls Tryz.prog 148 #[.agg #[.int .i64 (pb : Int), .int .i64 (pi : Int)]] W fun e w' => e = .returned (.int .u32 ((plA pb pi : Nat) : Int)) ∧ Below W.heap.size W w' := fun W => by
    have := lockOf_any (pb : Int) (pi : Int) W
    rw [hz_ pb pi] at this
    exact this
  have HU := Lib.hid (fun (W : World) (r1 : List Part) (X1 : Wm) (hr : u < r1.length) (hW : Wq w0 W base WB M1 r1 j [(B, onO 1 D true R1 (Pw Z.B) (.pointer none))] X1) => hW.newU hju hr (.cells (fr0 (plA pb pi)).cs 343))
  have HLEN : Hid (∀ q1 q2, u < ((r.set u q1).set e q2).length) := Lib.hid (fun q1 q2 => by rw [List.length_set, List.length_set]; exact hu)
  have HST := Lib.hid hst; have HTK := Lib.hid htk; have HG := Lib.hid hgot; have HLK := Lib.hid hlk; have HN := Lib.hid (fun W => new_free (plA pb pi) W); have HM := Lib.hid hm
  have HKB := Lib.hid (fun W => kbegin_any (D.z : Int) (.int .i64 (R1.m : Int)) (.int .i64 0) (.bool R1.more) (.bool R1.fair) (.int .i64 R1.th) W)
  have hmk := m_kbegin (.int .u64 (D.z : Int))
  clear h s hje hju heu hu hst h0 hkw hk how hpb hpi htk hm hgot hlk
  generalize plA pb pi = a at *
  go_enter Tryz.func120, Tryz.ntmps120
  go_upto_region 3 with (go_at_call 145; refine HST.out.mono ?_; rintro e' w2 ⟨rfl, q2, Z2, X2, hz2, h2, s2⟩; have H2 := Lib.hid h2; have HZ2 := Lib.hid hz2; have S2 := Lib.hid s2; clear h2 hz2 s2)
  clear c10 HST
  go_upto_region 4 with (go_at_call 169; refine (HTK.out _ _ _ _ HZ2.out H2.out S2.out).mono ?_; rintro e' w3 ⟨rfl, X3, h3⟩; dsimp only [roV]; have H3 := Lib.hid h3; have d4 := cell_row (h3.blk 0 rfl) 4; have d5 := cell_row (h3.blk 0 rfl) 5; have d6 := cell_row (h3.blk 0 rfl) 6; have d7 := cell_row (h3.blk 0 rfl) 7; have d8 := cell_row (h3.blk 0 rfl) 8; have d9 := cell_row (h3.blk 0 rfl) 9; have f4 := froz_row (h3.blk 0 rfl) 4; have f5 := froz_row (h3.blk 0 rfl) 5; have f6 := froz_row (h3.blk 0 rfl) 6; have f7 := froz_row (h3.blk 0 rfl) 7; have f8 := froz_row (h3.blk 0 rfl) 8; have f9 := froz_row (h3.blk 0 rfl) 9; clear h3)
  clear d4 d5 d6 d7 d8 d9 f4 f5 f6 f7 f8 f9
  have z5 := H3.out.put 0 rfl 5 (.int .i64 (R1.m : Int)) rfl
  have z6 := z5.put 0 rfl 6 (.int .i64 0) rfl
  have z7 := z6.put 0 rfl 7 (.bool R1.more) rfl
  have z8 := z7.put 0 rfl 8 (.bool R1.fair) rfl
  have z9 := z8.put 0 rfl 9 (.int .i64 R1.th) rfl
  have z4 := z9.put 0 rfl 4 (.bool true) rfl
  have H4 : Hid (Wq w0 _ base WB M1 ((r.set u q2).set e (way (enE M E) Z2)) j [(B, onO 1 D true R1 (Pw Z.B) (.pointer none))] X3) := Lib.hid z4
  clear z5 z6 z7 z8 z9 z4
  generalize (((((w3.setCell ⟨B, 5, none⟩ (.int .i64 (R1.m : Int))).setCell ⟨B, 6, none⟩ (.int .i64 0)).setCell ⟨B, 7, none⟩ (.bool R1.more)).setCell ⟨B, 8, none⟩ (.bool R1.fair)).setCell ⟨B, 9, none⟩ (.int .i64 R1.th)).setCell ⟨B, 4, none⟩ (.bool true) = w4 at *
  have c10 := cell_row (H4.out.blk 0 rfl) 10
  go_upto_region 5 with (first
    | (go_at_call 102; refine (HG.out _ _ _ _ _ HZ2.out H4.out S2.out).mono ?_; rintro e' w5 ⟨rfl, hb5⟩; have H5 := Lib.hid (H4.out.new hb5); clear hb5)
    | (go_at_call 148; refine (HLK.out _).mono ?_; rintro e' w6 ⟨rfl, hb6⟩; have H6a := Lib.hid (H5.out.new hb6); clear hb6)
    | (go_at_call 147; refine (HN.out _).mono ?_; rintro e' w6b ⟨rfl, rfl⟩; have h6 := HU.out _ _ _ (HLEN.out _ _) H6a.out; have H6b := Lib.hid h6; have d12 := cell_row (h6.blk 0 rfl) 12; have f12 := froz_row (h6.blk 0 rfl) 12; clear h6))
  clear d12 f12 c10
  have z12 := H6b.out.put 0 rfl 12 (Pw w6.heap.size) rfl
  have H6 : Hid (Wq w0 _ base WB M1 (((r.set u q2).set e (way (enE M E) Z2)).set u (freeP w6.heap.size (fr0 a))) j [(B, onO 1 D true R1 (Pw Z.B) (Pw w6.heap.size))] X3) := Lib.hid z12
  clear z12 H6b H6a H5 H4
  generalize (w6.alloc (.cells (fr0 a).cs 343)).setCell ⟨B, 12, none⟩ (Pw w6.heap.size) = w6c at *
  generalize w6.heap.size = U at *
  refine wp_region_held_drew (S := fun w' => w'.cell? ⟨B, 3, none⟩ = some (.iface 81 (.int .u64 (D.z : Int))) ∧ w'.cell? ⟨B, 5, none⟩ = some (.int .i64 (R1.m : Int)) ∧ w'.cell? ⟨B, 6, none⟩ = some (.int .i64 0) ∧ w'.cell? ⟨B, 7, none⟩ = some (.bool R1.more) ∧ w'.cell? ⟨B, 8, none⟩ = some (.bool R1.fair) ∧ w'.cell? ⟨B, 9, none⟩ = some (.int .i64 R1.th)) (by kernel_rfl) ?_ (fun hHeld => ?_)
  · exact ⟨cell_row ((H6.out.new (Below.refl _ _).drew).blk 0 rfl) 3, cell_row ((H6.out.new (Below.refl _ _).drew).blk 0 rfl) 5, cell_row ((H6.out.new (Below.refl _ _).drew).blk 0 rfl) 6, cell_row ((H6.out.new (Below.refl _ _).drew).blk 0 rfl) 7, cell_row ((H6.out.new (Below.refl _ _).drew).blk 0 rfl) 8, cell_row ((H6.out.new (Below.refl _ _).drew).blk 0 rfl) 9⟩
  refine tA 0 ⟨some 31, .move (.tmp 0), 76, "ones.go:90", #[], none⟩ ?veam1 ?ream1
  (try simp only [Act.put, tC, tD, tE])
  refine tA 1 ⟨some 32, .move (.tmp 0), 76, "ones.go:90", #[], none⟩ ?veam2 ?ream2
  (try simp only [Act.put, tC, tD, tE])
  refine tA 2 ⟨some 33, .nilCheck (.tmp 32), 0, "ones.go:90", #[⟨1, .data⟩], none⟩ ?veam3 ?ream3
  (try simp only [Act.put, tC, tD, tE])
  refine tA 3 ⟨some 34, .fieldAddr 75 (.tmp 33) 3, 0, "ones.go:90", #[⟨2, .data⟩], none⟩ ?veam4 ?ream4
  (try simp only [Act.put, tC, tD, tE])
  refine tA 4 ⟨some 35, .load 67 (.tmp 34), 67, "ones.go:90", #[⟨3, .data⟩], none⟩ ?veam5 ?ream5
  (try simp only [Act.put, tC, tD, tE])
  refine tA 5 ⟨some 36, .move (.tmp 0), 76, "ones.go:90", #[], none⟩ ?veam6 ?ream6
  (try simp only [Act.put, tC, tD, tE])
  refine tA 6 ⟨some 37, .nilCheck (.tmp 36), 0, "ones.go:90", #[⟨5, .data⟩], none⟩ ?veam7 ?ream7
  (try simp only [Act.put, tC, tD, tE])
  refine tA 7 ⟨some 38, .fieldAddr 75 (.tmp 37) 5, 0, "ones.go:90", #[⟨6, .data⟩], none⟩ ?veam8 ?ream8
  (try simp only [Act.put, tC, tD, tE])
  refine tA 8 ⟨some 39, .load 69 (.tmp 38), 69, "ones.go:90", #[⟨7, .data⟩], none⟩ ?veam9 ?ream9
  (try simp only [Act.put, tC, tD, tE])
  refine tA 9 ⟨some 40, .nilCheck (.tmp 35), 67, "ones.go:90", #[⟨4, .data⟩], none⟩ ?veam10 ?ream10
  (try simp only [Act.put, tC, tD, tE])
  refine tA 10 ⟨some 41, .move (.tmp 35), 67, "ones.go:90", #[⟨4, .data⟩, ⟨9, .data⟩], none⟩ ?veam11 ?ream11
  (try simp only [Act.put, tC, tD, tE])
  refine wpAnyH_ready (rs := [11]) (by kernel_rfl) (by simp) ?_
  refine AllReadyH.cons (o := ({ dst := some 42, op := Op.call { callee := Callee.invoke (Operand.tmp 41) "Begin", args := #[Operand.tmp 39], argTypes := #[69] }, type := 72, pos := "ones.go:90", after := #[{ on := 10, ground := Ground.data }, { on := 8, ground := Ground.data }], guard := none } : Oper)) rfl (fun Kq hKq => ?_) AllReadyH.nil
  go_simp; (refine (HKB.out _).mono ?_; rintro e' w7 ⟨rfl, hb7⟩; have H7 := Lib.hid ((H6.out.new (Below.refl _ _).drew).new hb7); clear hb7)
  refine hKq.out _ _ ?_ (fun hHeld => ?_)
  · exact ⟨cell_row (H7.out.blk 0 rfl) 3, cell_row (H7.out.blk 0 rfl) 5, cell_row (H7.out.blk 0 rfl) 6, cell_row (H7.out.blk 0 rfl) 7, cell_row (H7.out.blk 0 rfl) 8, cell_row (H7.out.blk 0 rfl) 9⟩
  clear hKq Kq
  (try simp only [Act.put, tC, tD, tE])
  refine tA 12 ⟨some 43, .nilCheck (.tmp 31), 0, "ones.go:90", #[⟨0, .data⟩, ⟨0, .phase⟩, ⟨1, .phase⟩, ⟨2, .phase⟩, ⟨3, .phase⟩, ⟨4, .phase⟩, ⟨5, .phase⟩, ⟨6, .phase⟩, ⟨7, .phase⟩, ⟨8, .phase⟩, ⟨9, .phase⟩, ⟨10, .phase⟩, ⟨11, .phase⟩], none⟩ ?veam12 ?ream12
  (try simp only [Act.put, tC, tD, tE])
  refine tA 13 ⟨some 44, .fieldAddr 75 (.tmp 43) 7, 0, "ones.go:90", #[⟨12, .data⟩, ⟨0, .phase⟩, ⟨1, .phase⟩, ⟨2, .phase⟩, ⟨3, .phase⟩, ⟨4, .phase⟩, ⟨5, .phase⟩, ⟨6, .phase⟩, ⟨7, .phase⟩, ⟨8, .phase⟩, ⟨9, .phase⟩, ⟨10, .phase⟩, ⟨11, .phase⟩], none⟩ ?veam13 ?ream13
  (try simp only [Act.put, tC, tD, tE])
  refine wpAnyH_ready (rs := [14]) (by kernel_rfl) (by simp) ?_
  refine AllReadyH.cons (o := ⟨none, .store 72 (.tmp 44) (.tmp 42), 0, "ones.go:90", #[⟨13, .data⟩, ⟨11, .data⟩, ⟨11, .chain⟩, ⟨0, .phase⟩, ⟨1, .phase⟩, ⟨2, .phase⟩, ⟨3, .phase⟩, ⟨4, .phase⟩, ⟨5, .phase⟩, ⟨6, .phase⟩, ⟨7, .phase⟩, ⟨8, .phase⟩, ⟨9, .phase⟩, ⟨10, .phase⟩, ⟨11, .phase⟩], none⟩) rfl (fun Kq hKq => ?_) AllReadyH.nil
  (have q0 := cell_row (H7.out.blk 0 rfl) 11; have f0 := froz_row (H7.out.blk 0 rfl) 11; go_simp; clear q0 f0; have z0 := H7.out.put 0 rfl 11 .nilIface rfl; have H8 := Lib.hid z0; clear z0; generalize w7.setCell ⟨B, 11, none⟩ .nilIface = w8 at *)
  refine hKq.out _ _ ?_ (fun hHeld => ?_)
  · exact ⟨cell_row (H8.out.blk 0 rfl) 3, cell_row (H8.out.blk 0 rfl) 5, cell_row (H8.out.blk 0 rfl) 6, cell_row (H8.out.blk 0 rfl) 7, cell_row (H8.out.blk 0 rfl) 8, cell_row (H8.out.blk 0 rfl) 9⟩
  clear hKq Kq
  (try simp only [Act.put, tC, tD, tE])
  refine wpAnyH_done (by kernel_rfl) ?_ _
  clear hHeld
  have c11 := cell_row (H8.out.blk 0 rfl) 11
  have c5 := cell_row (H8.out.blk 0 rfl) 5
  have HBE := Lib.hid (behind_any (b := b) c5 HM.out)
  have e1 := eqI0
  clear c5
  go_wp2_with (go_at_call 170; refine HBE.out.mono ?_; rintro e' w9 ⟨rfl, rfl⟩)
  all_goals (go_ret; exact ⟨rfl, q2, _, U, X3, H8.out⟩)
theorem leave_n {UB : Nat} (c12 : w.cell? ⟨B, 12, none⟩ = some (Pw UB)) (hst : Calls Tryz.prog 151 #[Pw UB, Pw WB] w fun e' w' => e' = .returned (.bool false) ∧ Q w') : Calls Tryz.prog 123 #[Pw B, Pw WB] w fun e' w' => e' = .returned (.int .u8 4) ∧ Q w' := by
  have HST := Lib.hid hst
  clear hst
  go_enter Tryz.func123, Tryz.ntmps123
  go_wp2_with (go_at_call 151; refine HST.out.mono ?_; rintro e w2 ⟨rfl, h2⟩; have H2 := Lib.hid h2; clear h2)
  go_ret
  exact ⟨rfl, H2.out⟩
theorem leave_y {UB : Nat} (c12 : w.cell? ⟨B, 12, none⟩ = some (Pw UB)) (hst : Calls Tryz.prog 151 #[Pw UB, Pw WB] w fun e' w' => e' = .returned (.bool true) ∧ Q w') : Calls Tryz.prog 123 #[Pw B, Pw WB] w fun e' w' => e' = .returned (.int .u8 0) ∧ Q w' := by
  have HST := Lib.hid hst
  clear hst
  go_enter Tryz.func123, Tryz.ntmps123
  go_wp2_with (go_at_call 151; refine HST.out.mono ?_; rintro e w2 ⟨rfl, h2⟩; have H2 := Lib.hid h2; clear h2)
  go_ret
  exact ⟨rfl, H2.out⟩
theorem unpark_ {t : Nat} (h : Wq w0 w base WB M r j [(B, onO 3 D told R en lv)] X) (ht : R.th = (t : Int)) (ht64 : t < 64) (hz : D.z < 18446744073709551616) (hpn : M.pn ≤ 900000000) :
    Calls Tryz.prog 122 #[Pw B, Pw WB] w fun e' w' => e' = .returned (.int .u8 4) ∧ ∃ X', Wq w0 w' base WB ((M.unpark (2 * t)).tok t D.z) r j [(B, onO 3 D told R en lv)] X' := by
  have c9 : w.cell? ⟨B, 9, none⟩ = some (.int .i64 (t : Int)) := by rw [← ht]; exact cell_row (h.blk 0 rfl) 9
  have hup : ∀ W, Below w.heap.size w W → W.cell? ⟨WB, 2, none⟩ = some (Pw X.pB) ∧ Calls Tryz.prog 150 #[Pw X.pB, .int .i64 ((2 * t : Nat) : Int)] W fun e w' => e = .returned (.tuple #[]) ∧ w'.cell? ⟨WB, 2, none⟩ = some (Pw X.pB) ∧ ∃ X', Wq w0 w' base WB (M.unpark (2 * t)) r j [(B, onO 3 D told R en lv)] X' := fun W hW => by
    refine ⟨(h.new hW).pg.c.2.1, ((h.new hW).pg.unpark (i := 2 * t) (by omega) (by omega)).mono ?_⟩
    rintro e w' ⟨rfl, X5, h5, e5⟩
    exact ⟨rfl, by rw [← e5]; exact h5.c.2.1, X5, (h.new hW).pgq h5⟩
  have htk : ∀ W X5, Wq w0 W base WB (M.unpark (2 * t)) r j [(B, onO 3 D told R en lv)] X5 → W.cell? ⟨WB, 7 + t, none⟩ = some (.int .u64 (((M.unpark (2 * t)).tk t : Nat) : Int)) ∧ W.frozen? ⟨WB, 7 + t, none⟩ = false ∧ ∃ X', Wq w0 (W.setCell ⟨WB, 7 + t, none⟩ (.int .u64 (D.z : Int))) base WB ((M.unpark (2 * t)).tok t D.z) r j [(B, onO 3 D told R en lv)] X' := fun W X5 hW => by
    obtain ⟨X6, h6, _⟩ := tok_put hW.pg ht64 D.z
    exact ⟨tok_at hW.pg ht64, tok_fz hW.pg t, X6, hW.pgq h6⟩
  have HUP := Lib.hid hup; have HTK := Lib.hid htk; have HL := Lib.hid (fun W => lot_any t ht64 W); have HI := Lib.hid (fun W => isth_yes ht64 W); have HT := Lib.hid (And.intro ht64 hz)
  have HKT := Lib.hid (fun W => ktoken_any (D.z : Int) W)
  have hmk := m_ktoken (.int .u64 (D.z : Int))
  obtain ⟨pB, hpB⟩ : ∃ pB, pB = X.pB := ⟨_, rfl⟩
  rw [← hpB] at HUP
  clear hpB hup htk ht ht64 hz hpn h
  go_enter Tryz.func122, Tryz.ntmps122
  go_upto_region 2 with fail
  clear c9
  refine wp_region_held_drew (S := fun w' => w'.cell? ⟨WB, 2, none⟩ = some (Pw pB)) (by kernel_rfl) ?_ (fun hHeld => ?_)
  · exact (HUP.out _ (Below.refl _ _).drew).1
  refine tA 0 ⟨some 11, .move (.tmp 1), 24, "ones.go:129", #[], none⟩ ?vuam1 ?ruam1
  (try simp only [Act.put, tC, tD, tE])
  refine tA 1 ⟨some 12, .nilCheck (.tmp 11), 0, "ones.go:129", #[⟨0, .data⟩], none⟩ ?vuam2 ?ruam2
  (try simp only [Act.put, tC, tD, tE])
  refine tA 2 ⟨some 13, .fieldAddr 47 (.tmp 12) 2, 0, "ones.go:129", #[⟨1, .data⟩], none⟩ ?vuam3 ?ruam3
  (try simp only [Act.put, tC, tD, tE])
  refine tA 3 ⟨some 14, .load 41 (.tmp 13), 41, "ones.go:129", #[⟨2, .data⟩], none⟩ ?vuam4 ?ruam4
  (try simp only [Act.put, tC, tD, tE])
  refine tA 4 ⟨some 15, .move (.tmp 5), 3, "ones.go:129", #[], none⟩ ?vuam5 ?ruam5
  (try simp only [Act.put, tC, tD, tE])
  refine wpAnyH_ready (rs := [5]) (by kernel_rfl) (by simp) ?_
  refine AllReadyH.cons (o := ⟨some 16, .call ⟨.value (.func 29), #[.tmp 15], #[3]⟩, 3, "ones.go:129", #[⟨4, .data⟩], none⟩) rfl (fun Kq hKq => ?_) AllReadyH.nil
  go_simp
  (refine (HL.out _).mono ?_; rintro e' w2 ⟨rfl, rfl⟩)
  refine hKq.out _ _ ?_ (fun hHeld => ?_)
  · exact hHeld
  clear hKq Kq
  (try simp only [Act.put, tC, tD, tE])
  refine wpAnyH_ready (rs := [6]) (by kernel_rfl) (by simp) ?_
  refine AllReadyH.cons (o := ⟨some 17, .call ⟨.value (.func 150), #[.tmp 14, .tmp 16], #[41, 3]⟩, 0, "ones.go:129", #[⟨3, .data⟩, ⟨5, .data⟩, ⟨5, .chain⟩], none⟩) rfl (fun Kq hKq => ?_) AllReadyH.nil
  go_simp
  (refine (HUP.out _ (Below.refl _ _).drew).2.mono ?_; rintro e' w3 ⟨rfl, hc3, X3, h3⟩; have H3 := Lib.hid h3; clear h3)
  refine hKq.out _ _ ?_ (fun hHeld => ?_)
  · exact hc3
  clear hKq Kq
  (try simp only [Act.put, tC, tD, tE])
  refine wpAnyH_done (by kernel_rfl) ?_ _
  clear hHeld
  go_upto_region 4 with (go_at_call 63; refine (HI.out _).mono ?_; rintro e' w4 ⟨rfl, rfl⟩)
  have h64 : (t : Int) < 64 := by have := HT.out.1; omega
  refine wp_region_held_drew (S := fun w' => w'.cell? ⟨B, 3, none⟩ = some (.iface 81 (.int .u64 (D.z : Int)))) (by kernel_rfl) ?_ (fun hHeld => ?_)
  · exact cell_row ((H3.out.new (Below.refl _ _).drew).blk 0 rfl) 3
  refine tA 0 ⟨some 20, .move (.tmp 1), 24, "ones.go:132", #[], none⟩ ?vubm1 ?rubm1
  (try simp only [Act.put, tC, tD, tE])
  refine tA 1 ⟨some 21, .move (.tmp 5), 3, "ones.go:132", #[], none⟩ ?vubm2 ?rubm2
  (try simp only [Act.put, tC, tD, tE])
  refine tA 2 ⟨some 22, .move (.tmp 0), 76, "ones.go:132", #[], none⟩ ?vubm3 ?rubm3
  (try simp only [Act.put, tC, tD, tE])
  refine tA 3 ⟨some 23, .nilCheck (.tmp 22), 0, "ones.go:132", #[⟨2, .data⟩], none⟩ ?vubm4 ?rubm4
  (try simp only [Act.put, tC, tD, tE])
  refine tA 4 ⟨some 24, .fieldAddr 75 (.tmp 23) 3, 0, "ones.go:132", #[⟨3, .data⟩], none⟩ ?vubm5 ?rubm5
  (try simp only [Act.put, tC, tD, tE])
  refine tA 5 ⟨some 25, .load 67 (.tmp 24), 67, "ones.go:132", #[⟨4, .data⟩], none⟩ ?vubm6 ?rubm6
  (try simp only [Act.put, tC, tD, tE])
  refine tA 7 ⟨some 27, .nilCheck (.tmp 20), 0, "ones.go:132", #[⟨0, .data⟩], none⟩ ?vubm7 ?rubm7
  (try simp only [Act.put, tC, tD, tE])
  refine tA 8 ⟨some 28, .fieldAddr 47 (.tmp 27) 7, 0, "ones.go:132", #[⟨7, .data⟩], none⟩ ?vubm8 ?rubm8
  (try simp only [Act.put, tC, tD, tE])
  refine wpAnyH_ready (rs := [6]) (by kernel_rfl) (by simp) ?_
  refine AllReadyH.cons (o := ({ dst := some 26, op := Op.call { callee := Callee.invoke (Operand.tmp 25) "Token", args := #[], argTypes := #[] }, type := 23, pos := "ones.go:132", after := #[{ on := 5, ground := Ground.data }], guard := none } : Oper)) rfl (fun Kq hKq => ?_) AllReadyH.nil
  go_simp; (refine (HKT.out _).mono ?_; rintro e' w6 ⟨rfl, rfl⟩)
  refine hKq.out _ _ ?_ (fun hHeld => ?_)
  · exact hHeld
  clear hKq Kq
  (try simp only [Act.put, tC, tD, tE])
  refine tA 9 ⟨some 29, .indexAddr 45 (.tmp 28) (.tmp 21), 0, "ones.go:132", #[⟨8, .data⟩, ⟨1, .data⟩, ⟨0, .phase⟩, ⟨1, .phase⟩, ⟨2, .phase⟩, ⟨3, .phase⟩, ⟨4, .phase⟩, ⟨5, .phase⟩, ⟨6, .phase⟩], none⟩ ?vubm9 ?rubm9
  (try simp only [Act.put, tC, tD, tE])
  refine wpAnyH_ready (rs := [10]) (by kernel_rfl) (by simp) ?_
  refine AllReadyH.cons (o := ⟨none, .store 23 (.tmp 29) (.tmp 26), 0, "ones.go:132", #[⟨9, .data⟩, ⟨6, .data⟩, ⟨6, .chain⟩, ⟨0, .phase⟩, ⟨1, .phase⟩, ⟨2, .phase⟩, ⟨3, .phase⟩, ⟨4, .phase⟩, ⟨5, .phase⟩, ⟨6, .phase⟩], none⟩) rfl (fun Kq hKq => ?_) AllReadyH.nil
  (obtain ⟨k0, kf, X5, h5⟩ := HTK.out _ _ (H3.out.new (Below.refl _ _).drew); have H5 : Hid (Wq w0 (w3.setCell ⟨WB, 7 + t, none⟩ (.int .u64 (D.z : Int))).drew base WB ((M.unpark (2 * t)).tok t D.z) r j [(B, onO 3 D told R en lv)] X5) := Lib.hid h5; go_simp; clear k0 kf h5; generalize (w3.setCell ⟨WB, 7 + t, none⟩ (.int .u64 (D.z : Int))).drew = w5 at *)
  refine hKq.out _ _ ?_ (fun hHeld => ?_)
  · exact cell_row (H5.out.blk 0 rfl) 3
  clear hKq Kq
  (try simp only [Act.put, tC, tD, tE])
  refine wpAnyH_done (by kernel_rfl) ?_ _
  clear hHeld
  go_wp2_with fail
  go_ret
  exact ⟨rfl, X5, H5.out⟩
end
end Go.Proofs.YtieiiabbeglmfaaGreatDoor.S19
set_option linter.unusedVariables false
set_option linter.unusedSimpArgs false
namespace Go.Proofs.YtieiiabbeglmfaaGreatDoor.S19
set_option maxRecDepth 100000
set_option maxHeartbeats 16000000
open Go.Proofs.YtieiiabbeglmfaaGreatDoor Go.Proofs.YtieiiabbeglmfaaGreatDoor.S11 Go.Proofs.YtieiiabbeglmfaaGreatDoor.S12 Go.Proofs.YtieiiabbeglmfaaGreatDoor.S13 Go.Proofs.YtieiiabbeglmfaaGreatDoor.S14 Go.Proofs.YtieiiabbeglmfaaGreatDoor.S15 Go.Proofs.YtieiiabbeglmfaaGreatDoor.S16 Go.Proofs.YtieiiabbeglmfaaGreatDoor.S18
open Go.RowKit
section
variable {w0 w w' : World} {base WB : Nat} {M : Sd} {r : List Part} {j e u B : Nat} {X : Wm} {D : Od} {Q Q1 : World → Prop}
theorem lix_1 (w : World) : (Instr.index 277 (.agg #[.nilFunc, .func (.func 120) #[] #[], .func (.func 121) #[] #[], .func (.func 122) #[] #[], .func (.func 123) #[] #[]]) (.int .u8 1)).run Tryz.prog w = .ok (.func (.func 120) #[] #[]) w := by kernel_rfl
theorem lstep_1 (w : World) : Calls Tryz.prog 66 #[.int .u8 1] w fun e w' => e = .returned (.func (.func 120) #[] #[]) ∧ Below w.heap.size w w' := by
  have hix := lix_1
  go_enter Tryz.func66, Tryz.ntmps66
  go_wp2_with fail
  go_ret
  exact ⟨rfl, Below.refl _ _⟩
theorem lix_3 (w : World) : (Instr.index 277 (.agg #[.nilFunc, .func (.func 120) #[] #[], .func (.func 121) #[] #[], .func (.func 122) #[] #[], .func (.func 123) #[] #[]]) (.int .u8 3)).run Tryz.prog w = .ok (.func (.func 122) #[] #[]) w := by kernel_rfl
theorem lstep_3 (w : World) : Calls Tryz.prog 66 #[.int .u8 3] w fun e w' => e = .returned (.func (.func 122) #[] #[]) ∧ Below w.heap.size w w' := by
  have hix := lix_3
  go_enter Tryz.func66, Tryz.ntmps66
  go_wp2_with fail
  go_ret
  exact ⟨rfl, Below.refl _ _⟩
theorem lix_4 (w : World) : (Instr.index 277 (.agg #[.nilFunc, .func (.func 120) #[] #[], .func (.func 121) #[] #[], .func (.func 122) #[] #[], .func (.func 123) #[] #[]]) (.int .u8 4)).run Tryz.prog w = .ok (.func (.func 123) #[] #[]) w := by kernel_rfl
theorem lstep_4 (w : World) : Calls Tryz.prog 66 #[.int .u8 4] w fun e w' => e = .returned (.func (.func 123) #[] #[]) ∧ Below w.heap.size w w' := by
  have hix := lix_4
  go_enter Tryz.func66, Tryz.ntmps66
  go_wp2_with fail
  go_ret
  exact ⟨rfl, Below.refl _ _⟩
theorem ostep_enter {nx : Nat} {ov : Bool} (c0 : w.cell? ⟨B, 0, none⟩ = some (.int .u8 1)) (hst : ∀ W, Below w.heap.size w W → Calls Tryz.prog 120 #[Pw B, Pw WB] W fun e w' => e = .returned (.int .u8 (nx : Int)) ∧ Q1 w') (hq1 : ∀ W, Q1 W → W.cell? ⟨B, 0, none⟩ = some (.int .u8 1) ∧ W.frozen? ⟨B, 0, none⟩ = false ∧ Q (W.setCell ⟨B, 0, none⟩ (.int .u8 (nx : Int)))) (hq : ∀ W, Q W → Calls Tryz.prog 20 #[Pw B] W fun e w' => e = .returned (.bool ov) ∧ W = w') :
    Calls Tryz.prog 21 #[Pw B, Pw WB] w fun e' w' => e' = .returned (.bool ov) ∧ Q w' := by
  have HOV := Lib.hid (oover_no (ln := 1) c0 (by omega)); have HST := Lib.hid hst; have HQ1 := Lib.hid hq1; have HQ := Lib.hid hq; have HLS := Lib.hid (fun W => lstep_1 W)
  clear hst hq1 hq
  go_enter Tryz.func21, Tryz.ntmps21
  go_upto_region 2 with (go_at_call 20; refine HOV.out.mono ?_; rintro e w2 ⟨rfl, rfl⟩)
  go_upto_region 3 with (first
    | (go_at_call 66; refine (HLS.out _).mono ?_; rintro e w3 ⟨rfl, hb3⟩; have HB3 := Lib.hid hb3; clear hb3)
    | (go_at_call 120; refine (HST.out _ HB3.out).mono ?_; rintro e w4 ⟨rfl, h4⟩; have H4 := Lib.hid h4; have z0 := (HQ1.out _ h4).1; have zf := (HQ1.out _ h4).2.1; clear h4))
  clear z0 zf c0
  have HZ := Lib.hid (HQ1.out _ H4.out).2.2
  generalize w4.setCell ⟨B, 0, none⟩ (.int .u8 (nx : Int)) = w5 at *
  have HOV2 := Lib.hid (HQ.out _ HZ.out)
  go_wp2_with (go_at_call 20; refine HOV2.out.mono ?_; rintro e w6 ⟨rfl, rfl⟩)
  go_ret
  exact ⟨rfl, HZ.out⟩
theorem ostep_unpark {nx : Nat} {ov : Bool} (c0 : w.cell? ⟨B, 0, none⟩ = some (.int .u8 3)) (hst : ∀ W, Below w.heap.size w W → Calls Tryz.prog 122 #[Pw B, Pw WB] W fun e w' => e = .returned (.int .u8 (nx : Int)) ∧ Q1 w') (hq1 : ∀ W, Q1 W → W.cell? ⟨B, 0, none⟩ = some (.int .u8 3) ∧ W.frozen? ⟨B, 0, none⟩ = false ∧ Q (W.setCell ⟨B, 0, none⟩ (.int .u8 (nx : Int)))) (hq : ∀ W, Q W → Calls Tryz.prog 20 #[Pw B] W fun e w' => e = .returned (.bool ov) ∧ W = w') :
    Calls Tryz.prog 21 #[Pw B, Pw WB] w fun e' w' => e' = .returned (.bool ov) ∧ Q w' := by
  have HOV := Lib.hid (oover_no (ln := 3) c0 (by omega)); have HST := Lib.hid hst; have HQ1 := Lib.hid hq1; have HQ := Lib.hid hq; have HLS := Lib.hid (fun W => lstep_3 W)
  clear hst hq1 hq
  go_enter Tryz.func21, Tryz.ntmps21
  go_upto_region 2 with (go_at_call 20; refine HOV.out.mono ?_; rintro e w2 ⟨rfl, rfl⟩)
  go_upto_region 3 with (first
    | (go_at_call 66; refine (HLS.out _).mono ?_; rintro e w3 ⟨rfl, hb3⟩; have HB3 := Lib.hid hb3; clear hb3)
    | (go_at_call 122; refine (HST.out _ HB3.out).mono ?_; rintro e w4 ⟨rfl, h4⟩; have H4 := Lib.hid h4; have z0 := (HQ1.out _ h4).1; have zf := (HQ1.out _ h4).2.1; clear h4))
  clear z0 zf c0
  have HZ := Lib.hid (HQ1.out _ H4.out).2.2
  generalize w4.setCell ⟨B, 0, none⟩ (.int .u8 (nx : Int)) = w5 at *
  have HOV2 := Lib.hid (HQ.out _ HZ.out)
  go_wp2_with (go_at_call 20; refine HOV2.out.mono ?_; rintro e w6 ⟨rfl, rfl⟩)
  go_ret
  exact ⟨rfl, HZ.out⟩
theorem ostep_leave {nx : Nat} {ov : Bool} (c0 : w.cell? ⟨B, 0, none⟩ = some (.int .u8 4)) (hst : ∀ W, Below w.heap.size w W → Calls Tryz.prog 123 #[Pw B, Pw WB] W fun e w' => e = .returned (.int .u8 (nx : Int)) ∧ Q1 w') (hq1 : ∀ W, Q1 W → W.cell? ⟨B, 0, none⟩ = some (.int .u8 4) ∧ W.frozen? ⟨B, 0, none⟩ = false ∧ Q (W.setCell ⟨B, 0, none⟩ (.int .u8 (nx : Int)))) (hq : ∀ W, Q W → Calls Tryz.prog 20 #[Pw B] W fun e w' => e = .returned (.bool ov) ∧ W = w') :
    Calls Tryz.prog 21 #[Pw B, Pw WB] w fun e' w' => e' = .returned (.bool ov) ∧ Q w' := by
  have HOV := Lib.hid (oover_no (ln := 4) c0 (by omega)); have HST := Lib.hid hst; have HQ1 := Lib.hid hq1; have HQ := Lib.hid hq; have HLS := Lib.hid (fun W => lstep_4 W)
  clear hst hq1 hq
  go_enter Tryz.func21, Tryz.ntmps21
  go_upto_region 2 with (go_at_call 20; refine HOV.out.mono ?_; rintro e w2 ⟨rfl, rfl⟩)
  go_upto_region 3 with (first
    | (go_at_call 66; refine (HLS.out _).mono ?_; rintro e w3 ⟨rfl, hb3⟩; have HB3 := Lib.hid hb3; clear hb3)
    | (go_at_call 123; refine (HST.out _ HB3.out).mono ?_; rintro e w4 ⟨rfl, h4⟩; have H4 := Lib.hid h4; have z0 := (HQ1.out _ h4).1; have zf := (HQ1.out _ h4).2.1; clear h4))
  clear z0 zf c0
  have HZ := Lib.hid (HQ1.out _ H4.out).2.2
  generalize w4.setCell ⟨B, 0, none⟩ (.int .u8 (nx : Int)) = w5 at *
  have HOV2 := Lib.hid (HQ.out _ HZ.out)
  go_wp2_with (go_at_call 20; refine HOV2.out.mono ?_; rintro e w6 ⟨rfl, rfl⟩)
  go_ret
  exact ⟨rfl, HZ.out⟩
theorem ostep_over {v : Value} (c0 : w.cell? ⟨B, 0, none⟩ = some (.int .u8 0)) : Calls Tryz.prog 21 #[Pw B, v] w fun e' w' => e' = .returned (.bool true) ∧ w = w' := by
  have HOV := Lib.hid (oover_yes c0)
  clear c0
  go_enter Tryz.func21, Tryz.ntmps21
  go_wp2_with (go_at_call 20; refine HOV.out.mono ?_; rintro e w1 ⟨rfl, rfl⟩)
  go_ret
  exact ⟨rfl, rfl⟩
def OShape (P : On) (r : List Part) (e u : Nat) (en lv : Value) : Prop :=
  match P.ln with
  | 1 => lv = .pointer none ∧ ∃ Z, en = Pw Z.B ∧ EwS r e u P.E Z
  | 3 => ∃ U, lv = Pw U ∧ r[u]? = some (freeP U P.F)
  | 4 => ∃ U, lv = Pw U ∧ r[u]? = some (freeP U P.F)
  | _ => True
structure OnW (w0 w : World) (base WB : Nat) (M : Sd) (r : List Part) (j e u : Nat) (P : On) (B : Nat) (X : Wm) : Prop where
  je : j ≠ e
  ju : j ≠ u
  eu : e ≠ u
  he : e < r.length
  hu : u < r.length
  at' : ∃ en lv, Wq w0 w base WB M r j [(B, onO P.ln P.D P.told P.R en lv)] X ∧ OShape P r e u en lv
theorem OnW.new {P : On} (h : OnW w0 w base WB M r j e u P B X) (b : Below w.heap.size w w') : OnW w0 w' base WB M r j e u P B X := by
  obtain ⟨en, lv, h1, h2⟩ := h.at'
  exact ⟨h.je, h.ju, h.eu, h.he, h.hu, en, lv, h1.new b, h2⟩
theorem OnW.c0 {P : On} (h : OnW w0 w base WB M r j e u P B X) : w.cell? ⟨B, 0, none⟩ = some (.int .u8 (P.ln : Int)) := by
  obtain ⟨en, lv, h1, h2⟩ := h.at'
  exact cell_row (h1.blk 0 rfl) 0
def OnS (w0 w' : World) (base WB : Nat) (M : Sd) (r : List Part) (j e u : Nat) (P : On) (B : Nat) : Prop :=
  ∃ q1 q2 X', OnW w0 w' base WB (onM M P) ((r.set e q1).set u q2) j e u (onE M P) B X'
theorem OnS.over {P : On} {W : World} (h : OnS w0 W base WB M r j e u P B) : Calls Tryz.prog 20 #[Pw B] W fun e w' => e = .returned (.bool (decide ((onE M P).ln = 0))) ∧ W = w' := by
  obtain ⟨q1, q2, X', h⟩ := h
  exact oover_any h.c0
theorem OnW.mk2 {P P' : On} {M' : Sd} {X' : Wm} {r' : List Part} {W : World} {en lv : Value} (h : OnW w0 w base WB M r j e u P B X) (hl : r'.length = r.length) (hw : Wq w0 W base WB M' r' j [(B, onO P'.ln P'.D P'.told P'.R en lv)] X') (hs : OShape P' r' e u en lv) : OnW w0 W base WB M' r' j e u P' B X' :=
  ⟨h.je, h.ju, h.eu, by rw [hl]; exact h.he, by rw [hl]; exact h.hu, en, lv, hw, hs⟩
theorem set_self {α : Type} {r : List α} {i : Nat} {x : α} (h : r[i]? = some x) : r.set i x = r := by
  obtain ⟨hi, he⟩ := List.getElem?_eq_some_iff.1 h
  rw [← he]
  exact List.set_getElem_self hi
structure ORoom (w0 : World) (base WB : Nat) (M : Sd) (P : On) : Prop where
  ms : 0 ≤ M.sp ∧ M.sp ≤ 16
  n : M.n ≤ 800000000
  p : M.pn ≤ 800000000
  tab : Tab w0
  b0 : 0 < base
  in1 : P.ln = 1 → (enE M P.E).ln = 0 → S10.InI (bitsN (enE M P.E).tw : Int) ∧ bktN P.D.k (enE M P.E).tw < ((enM M P.E).m (bitsN (enE M P.E).tw : Int)).length ∧ (qAt (enM M P.E) (bitsN (enE M P.E).tw : Int) (bktN P.D.k (enE M P.E).tw)).length ≤ 900 ∧ (enM M P.E).nD.length ≤ 90000 ∧ (enM M P.E).n ≤ 900000000 ∧ (enM M P.E).pn ≤ 900000000
  th : P.ln = 3 → 0 ≤ P.R.th ∧ P.R.th < 64
def Fires (w0 : World) (base WB : Nat) (M : Sd) (j : Nat) (P : On) : Prop :=
  ∀ W rr ll X', takeB (enM M P.E) (bitsN (enE M P.E).tw : Int) (bktN P.D.k (enE M P.E).tw) P.D.k = true → Wq w0 W base WB (takeN (enM M P.E) P.D.t (bitsN (enE M P.E).tw : Int) (bktN P.D.k (enE M P.E).tw) P.D.k) rr j ll X' → Calls Tryz.prog 196 #[Pw WB, .agg #[.int .i64 (bitsN (enE M P.E).tw : Int), .int .i64 ((bktN P.D.k (enE M P.E).tw : Nat) : Int)]] W fun e w' => e = .returned (.bool (fireB (takeN (enM M P.E) P.D.t (bitsN (enE M P.E).tw : Int) (bktN P.D.k (enE M P.E).tw) P.D.k) (bitsN (enE M P.E).tw : Int) (bktN P.D.k (enE M P.E).tw))) ∧ ∃ X', Wq w0 w' base WB (fireM (takeN (enM M P.E) P.D.t (bitsN (enE M P.E).tw : Int) (bktN P.D.k (enE M P.E).tw) P.D.k) (bitsN (enE M P.E).tw : Int) (bktN P.D.k (enE M P.E).tw)) rr j ll X'
theorem ol_4 {P : On} (h : OnW w0 w base WB M r j e u P B X) (ok : OnOk P) (hl : P.ln = 4) (hn : M.n ≤ 800000000) (hp : M.pn ≤ 800000000) :
    Calls Tryz.prog 21 #[Pw B, Pw WB] w fun e' w' => e' = .returned (.bool (decide ((onE M P).ln = 0))) ∧ OnS w0 w' base WB M r j e u P B := by
  obtain ⟨ln, D, told, R, E, F⟩ := P
  obtain rfl : ln = 4 := hl
  obtain ⟨en, lv, hw, U, rfl, hr⟩ := h.at'
  have hf := fun (W : World) (hb : Below w.heap.size w W) => fstep_ (hw.new hb) h.ju hr (ok.f.ok (by omega) (by omega)) ok.f.ln
  have hM : onM M ⟨4, D, told, R, E, F⟩ = fstepM M F := rfl
  have hlen : (r.set u (freeP U (fstepK M F))).length = r.length := List.length_set
  have hset : (r.set e (r[e]'h.he)).set u (freeP U (fstepK M F)) = r.set u (freeP U (fstepK M F)) := by rw [set_self (List.getElem?_eq_getElem h.he)]
  by_cases h0 : (fstepK M F).ln = 0
  · have hE : onE M ⟨4, D, told, R, E, F⟩ = ⟨0, D, told, R, E, fstepK M F⟩ := if_pos h0
    rw [decide_eq_true h0] at hf
    refine ostep_leave (nx := 0) (ov := decide ((onE M ⟨4, D, told, R, E, F⟩).ln = 0)) (Q1 := fun W => ∃ X', Wq w0 W base WB (fstepM M F) (r.set u (freeP U (fstepK M F))) j [(B, onO 4 D told R en (Pw U))] X') h.c0 (fun W hb => leave_y (cell_row ((hw.new hb).blk 0 rfl) 12) (hf W hb)) (fun W ⟨X', hW⟩ => ⟨cell_row (hW.blk 0 rfl) 0, froz_row (hW.blk 0 rfl) 0, ?_⟩) (fun W hW => OnS.over hW)
    refine ⟨r[e]'h.he, freeP U (fstepK M F), X', ?_⟩
    rw [hset, hM, hE]
    exact h.mk2 hlen (P' := ⟨0, D, told, R, E, fstepK M F⟩) (hW.put 0 rfl 0 (.int .u8 0) rfl) trivial
  · have hE : onE M ⟨4, D, told, R, E, F⟩ = ⟨4, D, told, R, E, fstepK M F⟩ := if_neg h0
    rw [decide_eq_false h0] at hf
    refine ostep_leave (nx := 4) (ov := decide ((onE M ⟨4, D, told, R, E, F⟩).ln = 0)) (Q1 := fun W => ∃ X', Wq w0 W base WB (fstepM M F) (r.set u (freeP U (fstepK M F))) j [(B, onO 4 D told R en (Pw U))] X') h.c0 (fun W hb => leave_n (cell_row ((hw.new hb).blk 0 rfl) 12) (hf W hb)) (fun W ⟨X', hW⟩ => ⟨cell_row (hW.blk 0 rfl) 0, froz_row (hW.blk 0 rfl) 0, ?_⟩) (fun W hW => OnS.over hW)
    refine ⟨r[e]'h.he, freeP U (fstepK M F), X', ?_⟩
    rw [hset, hM, hE]
    exact h.mk2 hlen (P' := ⟨4, D, told, R, E, fstepK M F⟩) (hW.put 0 rfl 0 (.int .u8 4) rfl) ⟨U, rfl, List.getElem?_set_self h.hu⟩
theorem ol_3 {P : On} (h : OnW w0 w base WB M r j e u P B X) (ok : OnOk P) (hl : P.ln = 3) (hp : M.pn ≤ 800000000) (hth : 0 ≤ P.R.th ∧ P.R.th < 64) :
    Calls Tryz.prog 21 #[Pw B, Pw WB] w fun e' w' => e' = .returned (.bool (decide ((onE M P).ln = 0))) ∧ OnS w0 w' base WB M r j e u P B := by
  obtain ⟨ln, D, told, R, E, F⟩ := P
  obtain rfl : ln = 3 := hl
  obtain ⟨en, lv, hw, U, rfl, hr⟩ := h.at'
  obtain ⟨t, ht⟩ : ∃ t : Nat, R.th = (t : Int) := ⟨R.th.toNat, by have : 0 ≤ R.th := hth.1; omega⟩
  have ht64 : t < 64 := by have : R.th < 64 := hth.2; omega
  have hM : onM M ⟨3, D, told, R, E, F⟩ = (M.unpark (2 * t)).tok t D.z := by
    show (M.unpark (2 * R.th.toNat)).tok R.th.toNat D.z = _
    rw [show R.th.toNat = t by omega]
  have hE : onE M ⟨3, D, told, R, E, F⟩ = ⟨4, D, told, R, E, F⟩ := rfl
  have hset : (r.set e (r[e]'h.he)).set u (r[u]'h.hu) = r := by rw [set_self (List.getElem?_eq_getElem h.he), set_self (List.getElem?_eq_getElem h.hu)]
  refine ostep_unpark (nx := 4) (ov := decide ((onE M ⟨3, D, told, R, E, F⟩).ln = 0)) (Q1 := fun W => ∃ X', Wq w0 W base WB ((M.unpark (2 * t)).tok t D.z) r j [(B, onO 3 D told R en (Pw U))] X') h.c0 (fun W hb => unpark_ (hw.new hb) ht ht64 ok.z (by omega)) (fun W ⟨X', hW⟩ => ⟨cell_row (hW.blk 0 rfl) 0, froz_row (hW.blk 0 rfl) 0, ?_⟩) (fun W hW => OnS.over hW)
  refine ⟨r[e]'h.he, r[u]'h.hu, X', ?_⟩
  rw [hset, hM, hE]
  exact h.mk2 rfl (P' := ⟨4, D, told, R, E, F⟩) (hW.put 0 rfl 0 (.int .u8 4) rfl) ⟨U, rfl, hr⟩
theorem ol_1 {P : On} (h : OnW w0 w base WB M r j e u P B X) (ok : OnOk P) (hl : P.ln = 1) (g : ORoom w0 base WB M P) (hfi : (enE M P.E).ln = 0 → Fires w0 base WB M j P)
    (hes : ∀ W Z X1, Wq w0 W base WB M r j [(B, onO 1 P.D false ro0 (Pw Z.B) (.pointer none))] X1 → EwS r e u P.E Z → Calls Tryz.prog 145 #[Pw Z.B, Pw WB] W fun e' w' => e' = .returned (.bool (decide ((enE M P.E).ln = 0))) ∧ WayStep w0 w' base WB M r j e u [(B, onO 1 P.D false ro0 (Pw Z.B) (.pointer none))] P.E Z) :
    Calls Tryz.prog 21 #[Pw B, Pw WB] w fun e' w' => e' = .returned (.bool (decide ((onE M P).ln = 0))) ∧ OnS w0 w' base WB M r j e u P B := by
  obtain ⟨ln, D, told, R, E, F⟩ := P
  obtain rfl : ln = 1 := hl
  obtain ⟨rfl, rfl⟩ : told = false ∧ R = ro0 := ok.t1 rfl
  obtain ⟨en, lv, hw, rfl, Z, rfl, hs⟩ := h.at'
  have hs' : EwS r e u E Z := hs
  by_cases h0 : (enE M E).ln = 0
  · obtain ⟨pb, hpb⟩ : ∃ pb, pb = bitsN (enE M E).tw := ⟨_, rfl⟩
    obtain ⟨pi, hpi⟩ : ∃ pi, pi = bktN D.k (enE M E).tw := ⟨_, rfl⟩
    obtain ⟨g1, g2, g3, g4, g5, g6⟩ := g.in1 rfl h0
    have hfi' := hfi h0
    unfold Fires at hfi'
    simp only at g1 g2 g3 g4 g5 g6 hfi'
    rw [← hpb] at g1 g2 g3 hfi'
    rw [← hpi] at g2 g3 hfi'
    have hkw : (enE M E).kw = D.k := (enE_kw2 ok.e (ok.e1 rfl)).trans ok.ek
    have how : (enE M E).ow = false := (enE_ow M E).1.trans (ok.e1 rfl)
    obtain ⟨b, hb⟩ : ∃ b, b = takeB (enM M E) (pb : Int) pi D.k := ⟨_, rfl⟩
    have hm : (takeR (enM M E) D.t (pb : Int) pi D.k).m = if b = true then 1 else 0 := by
      unfold takeR
      rw [← hb]
      cases b <;> rfl
    have hM : onM M ⟨1, D, false, ro0, E, F⟩ = takeM (enM M E) D.t (pb : Int) pi D.k := by
      rw [hpb, hpi]; exact if_pos h0
    have hE : onE M ⟨1, D, false, ro0, E, F⟩ = ⟨if b = true then 3 else 4, D, true, takeR (enM M E) D.t (pb : Int) pi D.k, enE M E, fr0 (plA pb pi)⟩ := by
      rw [hb, hpb, hpi]; exact if_pos h0
    have hst := fun (W : World) (hb : Below w.heap.size w W) => hes W Z X (hw.new hb) hs'
    simp only [decide_eq_true h0] at hst
    refine ostep_enter (nx := if b = true then 3 else 4) (ov := decide ((onE M ⟨1, D, false, ro0, E, F⟩).ln = 0)) (Q1 := fun W => ∃ q1 q2 U X', Wq w0 W base WB (takeM (enM M E) D.t (pb : Int) pi D.k) (((r.set u q1).set e q2).set u (freeP U (fr0 (plA pb pi)))) j [(B, onO 1 D true (takeR (enM M E) D.t (pb : Int) pi D.k) (Pw Z.B) (Pw U))] X') h.c0 (fun W hbw => enter_y (hw.new hbw) hs' h.je h.ju h.eu h.hu (hst W hbw) h0 hkw ok.k how hpb hpi (fun W2 r1 Z1 X1 hz h2 s2 => ?_) hm) (fun W hW => ?_) (fun W hW => OnS.over hW)
    · rw [← hz] at h2 ⊢
      exact take_ h2 s2 h.je h.ju h0 hkw ok.k how (by rw [hpb]) hpi g5 g6 g.tab g.b0 g1 g2 g3 g4 hfi'
    · obtain ⟨q1, q2, U, X', hW⟩ := hW
      refine ⟨cell_row (hW.blk 0 rfl) 0, froz_row (hW.blk 0 rfl) 0, q2, freeP U (fr0 (plA pb pi)), X', ?_⟩
      have hr : ((r.set u q1).set e q2).set u (freeP U (fr0 (plA pb pi))) = (r.set e q2).set u (freeP U (fr0 (plA pb pi))) := by
        rw [List.set_comm _ _ h.eu, List.set_set]
        exact List.set_comm _ _ h.eu.symm
      rw [hr] at hW
      rw [hM, hE]
      refine h.mk2 (by rw [List.length_set, List.length_set]) (P' := ⟨if b = true then 3 else 4, D, true, takeR (enM M E) D.t (pb : Int) pi D.k, enE M E, fr0 (plA pb pi)⟩) (hW.put 0 rfl 0 (.int .u8 ((if b = true then 3 else 4 : Nat) : Int)) rfl) ?_
      have hu2 : ((r.set e q2).set u (freeP U (fr0 (plA pb pi))))[u]? = some (freeP U (fr0 (plA pb pi))) := List.getElem?_set_self (by rw [List.length_set]; exact h.hu)
      cases b
      · exact ⟨U, rfl, hu2⟩
      · exact ⟨U, rfl, hu2⟩
  · have hM : onM M ⟨1, D, false, ro0, E, F⟩ = enM M E := if_neg h0
    have hE : onE M ⟨1, D, false, ro0, E, F⟩ = ⟨1, D, false, ro0, enE M E, F⟩ := if_neg h0
    have hst := fun (W : World) (hb : Below w.heap.size w W) => hes W Z X (hw.new hb) hs'
    simp only [decide_eq_false h0] at hst
    refine ostep_enter (nx := 1) (ov := decide ((onE M ⟨1, D, false, ro0, E, F⟩).ln = 0)) (Q1 := fun W => WayStep w0 W base WB M r j e u [(B, onO 1 D false ro0 (Pw Z.B) (.pointer none))] E Z) h.c0 (fun W hbw => enter_n (cell_row ((hw.new hbw).blk 0 rfl) 10) (hst W hbw)) (fun W hW => ?_) (fun W hW => OnS.over hW)
    obtain ⟨q, Z', X', hz, h2, s2⟩ := hW
    refine ⟨cell_row (h2.blk 0 rfl) 0, froz_row (h2.blk 0 rfl) 0, way (enE M E) Z', q, X', ?_⟩
    have hr : (r.set u q).set e (way (enE M E) Z') = (r.set e (way (enE M E) Z')).set u q := List.set_comm _ _ h.eu.symm
    rw [hr] at h2 s2
    rw [hM, hE]
    refine h.mk2 (by rw [List.length_set, List.length_set]) (P' := ⟨1, D, false, ro0, enE M E, F⟩) (h2.put 0 rfl 0 (.int .u8 1) rfl) ⟨rfl, Z', by rw [hz], s2⟩
end
end Go.Proofs.YtieiiabbeglmfaaGreatDoor.S19
