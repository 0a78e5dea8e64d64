/- Texts of this seat, one behind the other. -/
import Derived.Test.YtieiiabbeglmfaaGreatDoorMLawFair2041
set_option linter.unusedVariables false
set_option linter.unusedSimpArgs false
set_option linter.unusedVariables false
set_option linter.unusedSimpArgs false
set_option linter.unusedVariables false
set_option linter.unusedSimpArgs false
namespace Go.Proofs.YtieiiabbeglmfaaGreatDoor.S18
set_option maxRecDepth 100000
set_option maxHeartbeats 16000000
open Go.Proofs.YtieiiabbeglmfaaGreatDoor Go.Proofs.YtieiiabbeglmfaaGreatDoor.S11 Go.Proofs.YtieiiabbeglmfaaGreatDoor.S12 Go.Proofs.YtieiiabbeglmfaaGreatDoor.S13 Go.Proofs.YtieiiabbeglmfaaGreatDoor.S14 Go.Proofs.YtieiiabbeglmfaaGreatDoor.S15 Go.Proofs.YtieiiabbeglmfaaGreatDoor.S16
open Go.RowKit
section
variable {w : World} {WB NB : Nat} {Q Q1 : World → Prop}
theorem ostep_STORE1 {c0 : Nat} (d0 : w.cell? ⟨NB, 0, none⟩ = some (fnV 186 #[] #[Pw c0])) (d1 : w.cell? ⟨NB, 1, none⟩ = some (.bool false)) (hdo : Calls Tryz.prog 186 #[Pw WB, Pw c0] w fun e w' => e = .returned (.tuple #[]) ∧ Q1 w') (hq : ∀ W, Q1 W → W.cell? ⟨NB, 1, none⟩ = some (.bool false) ∧ W.frozen? ⟨NB, 1, none⟩ = false ∧ Q (W.setCell ⟨NB, 1, none⟩ (.bool true))) :
    Calls Tryz.prog 332 #[Pw NB, Pw WB] w fun e w' => e = .returned (.bool true) ∧ Q w' := by
  have HDO := Lib.hid hdo; have HQ := Lib.hid hq
  clear hdo hq
  go_enter Tryz.func332, Tryz.ntmps332
  go_upto_region 3 with (go_at_call 186; refine HDO.out.mono ?_; rintro e w2 ⟨rfl, h2⟩; have H2 := Lib.hid h2; clear h2)
  clear d0 d1
  have z1 := (HQ.out _ H2.out).1
  have zf := (HQ.out _ H2.out).2.1
  have HZ := Lib.hid (HQ.out _ H2.out).2.2
  go_wp2_with fail
  go_ret
  exact ⟨rfl, HZ.out⟩
theorem ostep_QUEUE1 {c0 : Nat} (d0 : w.cell? ⟨NB, 0, none⟩ = some (fnV 214 #[] #[Pw c0])) (d1 : w.cell? ⟨NB, 1, none⟩ = some (.bool false)) (hdo : Calls Tryz.prog 214 #[Pw WB, Pw c0] w fun e w' => e = .returned (.tuple #[]) ∧ Q1 w') (hq : ∀ W, Q1 W → W.cell? ⟨NB, 1, none⟩ = some (.bool false) ∧ W.frozen? ⟨NB, 1, none⟩ = false ∧ Q (W.setCell ⟨NB, 1, none⟩ (.bool true))) :
    Calls Tryz.prog 332 #[Pw NB, Pw WB] w fun e w' => e = .returned (.bool true) ∧ Q w' := by
  have HDO := Lib.hid hdo; have HQ := Lib.hid hq
  clear hdo hq
  go_enter Tryz.func332, Tryz.ntmps332
  go_upto_region 3 with (go_at_call 214; refine HDO.out.mono ?_; rintro e w2 ⟨rfl, h2⟩; have H2 := Lib.hid h2; clear h2)
  clear d0 d1
  have z1 := (HQ.out _ H2.out).1
  have zf := (HQ.out _ H2.out).2.1
  have HZ := Lib.hid (HQ.out _ H2.out).2.2
  go_wp2_with fail
  go_ret
  exact ⟨rfl, HZ.out⟩
theorem ostep_ASK1 {c0 c1 c2 c3 : Nat} (d0 : w.cell? ⟨NB, 0, none⟩ = some (fnV 267 #[] #[Pw c0, Pw c1, Pw c2, Pw c3])) (d1 : w.cell? ⟨NB, 1, none⟩ = some (.bool false)) (hdo : Calls Tryz.prog 267 #[Pw WB, Pw c0, Pw c1, Pw c2, Pw c3] w fun e w' => e = .returned (.tuple #[]) ∧ Q1 w') (hq : ∀ W, Q1 W → W.cell? ⟨NB, 1, none⟩ = some (.bool false) ∧ W.frozen? ⟨NB, 1, none⟩ = false ∧ Q (W.setCell ⟨NB, 1, none⟩ (.bool true))) :
    Calls Tryz.prog 332 #[Pw NB, Pw WB] w fun e w' => e = .returned (.bool true) ∧ Q w' := by
  have HDO := Lib.hid hdo; have HQ := Lib.hid hq
  clear hdo hq
  go_enter Tryz.func332, Tryz.ntmps332
  go_upto_region 3 with (go_at_call 267; refine HDO.out.mono ?_; rintro e w2 ⟨rfl, h2⟩; have H2 := Lib.hid h2; clear h2)
  clear d0 d1
  have z1 := (HQ.out _ H2.out).1
  have zf := (HQ.out _ H2.out).2.1
  have HZ := Lib.hid (HQ.out _ H2.out).2.2
  go_wp2_with fail
  go_ret
  exact ⟨rfl, HZ.out⟩
theorem ostep_CLATE1 {c0 : Nat} (d0 : w.cell? ⟨NB, 0, none⟩ = some (fnV 311 #[] #[Pw c0])) (d1 : w.cell? ⟨NB, 1, none⟩ = some (.bool false)) (hdo : Calls Tryz.prog 311 #[Pw WB, Pw c0] w fun e w' => e = .returned (.tuple #[]) ∧ Q1 w') (hq : ∀ W, Q1 W → W.cell? ⟨NB, 1, none⟩ = some (.bool false) ∧ W.frozen? ⟨NB, 1, none⟩ = false ∧ Q (W.setCell ⟨NB, 1, none⟩ (.bool true))) :
    Calls Tryz.prog 332 #[Pw NB, Pw WB] w fun e w' => e = .returned (.bool true) ∧ Q w' := by
  have HDO := Lib.hid hdo; have HQ := Lib.hid hq
  clear hdo hq
  go_enter Tryz.func332, Tryz.ntmps332
  go_upto_region 3 with (go_at_call 311; refine HDO.out.mono ?_; rintro e w2 ⟨rfl, h2⟩; have H2 := Lib.hid h2; clear h2)
  clear d0 d1
  have z1 := (HQ.out _ H2.out).1
  have zf := (HQ.out _ H2.out).2.1
  have HZ := Lib.hid (HQ.out _ H2.out).2.2
  go_wp2_with fail
  go_ret
  exact ⟨rfl, HZ.out⟩
theorem ostep_CVAL1 {c0 c1 : Nat} (d0 : w.cell? ⟨NB, 0, none⟩ = some (fnV 312 #[] #[Pw c0, Pw c1])) (d1 : w.cell? ⟨NB, 1, none⟩ = some (.bool false)) (hdo : Calls Tryz.prog 312 #[Pw WB, Pw c0, Pw c1] w fun e w' => e = .returned (.tuple #[]) ∧ Q1 w') (hq : ∀ W, Q1 W → W.cell? ⟨NB, 1, none⟩ = some (.bool false) ∧ W.frozen? ⟨NB, 1, none⟩ = false ∧ Q (W.setCell ⟨NB, 1, none⟩ (.bool true))) :
    Calls Tryz.prog 332 #[Pw NB, Pw WB] w fun e w' => e = .returned (.bool true) ∧ Q w' := by
  have HDO := Lib.hid hdo; have HQ := Lib.hid hq
  clear hdo hq
  go_enter Tryz.func332, Tryz.ntmps332
  go_upto_region 3 with (go_at_call 312; refine HDO.out.mono ?_; rintro e w2 ⟨rfl, h2⟩; have H2 := Lib.hid h2; clear h2)
  clear d0 d1
  have z1 := (HQ.out _ H2.out).1
  have zf := (HQ.out _ H2.out).2.1
  have HZ := Lib.hid (HQ.out _ H2.out).2.2
  go_wp2_with fail
  go_ret
  exact ⟨rfl, HZ.out⟩
end
end Go.Proofs.YtieiiabbeglmfaaGreatDoor.S18
set_option linter.unusedVariables false
set_option linter.unusedSimpArgs false
namespace Go.Proofs.YtieiiabbeglmfaaGreatDoor.S18
set_option maxRecDepth 100000
set_option maxHeartbeats 16000000
open Go.Proofs.YtieiiabbeglmfaaGreatDoor Go.Proofs.YtieiiabbeglmfaaGreatDoor.S11 Go.Proofs.YtieiiabbeglmfaaGreatDoor.S12 Go.Proofs.YtieiiabbeglmfaaGreatDoor.S13 Go.Proofs.YtieiiabbeglmfaaGreatDoor.S14 Go.Proofs.YtieiiabbeglmfaaGreatDoor.S15 Go.Proofs.YtieiiabbeglmfaaGreatDoor.S16
open Go.RowKit
structure AtPl (w0 : World) (base : Nat) (M : Sd) (pb pi : Nat) : Prop where
  tab : Tab w0
  b0 : 0 < base
  inI : S10.InI (pb : Int)
  lt : pi < (M.m (pb : Int)).length
  q : (qAt M (pb : Int) pi).length ≤ 900
  n : M.nD.length ≤ 90000
section
variable {w0 w w' : World} {base WB : Nat} {M : Sd} {r : List Part} {j e u B : Nat} {X X' : Wm} {D : Pd} {pb pi ky o : Nat} {E : En} {F : Fr}
theorem hz_ (pb pi : Nat) : S10.lockZ (pb : Int) (pi : Int) = (plA pb pi : Int) := plA_eq pb pi
theorem PaW.left1 {P : Pa} {M' : Sd} (h : PaW w0 w base WB M r j e u P B X) (hD : P.D = D) (hL : Left w0 w' base WB M' r j u B D (pb : Int) (pi : Int) 0 1 (plA pb pi) X') (hM : paM M P = M') (hE : paE M P = ⟨3, D, pb, pi, E, fr0 (plA pb pi), ky, 0⟩) : PaS w0 w' base WB M r j e u P B := by
  obtain ⟨U, XB, OB, h3⟩ := hL
  exact PaS.atu hM hE (h.mkW List.length_set h3 ⟨U, XB, OB, rfl, List.getElem?_set_self h.hu⟩)
theorem PaW.left2 {P : Pa} {M' : Sd} (h : PaW w0 w base WB M r j e u P B X) (hD : P.D = D) (hL : Left w0 w' base WB M' r j u B D (pb : Int) (pi : Int) 0 2 (plA pb pi) X') (hM : paM M P = M') (hE : paE M P = ⟨11, D, pb, pi, E, fr0 (plA pb pi), ky, 0⟩) : PaS w0 w' base WB M r j e u P B := by
  obtain ⟨U, XB, OB, h3⟩ := hL
  exact PaS.atu hM hE (h.mkW List.length_set h3 ⟨U, XB, OB, rfl, List.getElem?_set_self h.hu⟩)
theorem PaW.left3 {P : Pa} {M' : Sd} (h : PaW w0 w base WB M r j e u P B X) (hD : P.D = D) (hL : Left w0 w' base WB M' r j u B D (pb : Int) (pi : Int) 0 3 (plA pb pi) X') (hM : paM M P = M') (hE : paE M P = ⟨13, D, pb, pi, E, fr0 (plA pb pi), ky, 0⟩) : PaS w0 w' base WB M r j e u P B := by
  obtain ⟨U, XB, OB, h3⟩ := hL
  exact PaS.atu hM hE (h.mkW List.length_set h3 ⟨U, XB, OB, rfl, List.getElem?_set_self h.hu⟩)
theorem pl_4 (h : PaW w0 w base WB M r j e u ⟨4, D, pb, pi, E, F, ky, o⟩ B X) (ok : PaOk ⟨4, D, pb, pi, E, F, ky, o⟩) (okE : PaOk (paE M ⟨4, D, pb, pi, E, F, ky, o⟩)) (ms : 0 ≤ M.sp ∧ M.sp ≤ 16) (hn : M.n ≤ 800000000) (hp : M.pn ≤ 800000000) : Calls Tryz.prog 31 #[Pw B, Pw WB] w fun e' w' => e' = .returned (.bool (decide ((paE M ⟨4, D, pb, pi, E, F, ky, o⟩).ln = 0))) ∧ PaS w0 w' base WB M r j e u ⟨4, D, pb, pi, E, F, ky, o⟩ B := by
  obtain ⟨l, hw, XB, NB, rfl⟩ := h.at'
  obtain rfl : o = 0 := ok.o (by show 4 ≠ 0; omega)
  have hst := ostep_STORE1 (NB := NB) (Q := fun W => ∃ X', Wq w0 W base WB (M.acc 2 (64 + D.t) D.k) r j [(B, pkO D pb pi (.iface 372 (Pw NB)) (fnV 187 #[Pw B] #[]) 0), (XB, xO B), (NB, oneO (.func 186) #[] #[Pw XB] true)] X') (cell_row (hw.blk 2 rfl) 0) (cell_row (hw.blk 2 rfl) 1) (store1_ (k := 1) hw rfl rfl ok.t ok.k (by omega)) (fun W ⟨X', hW⟩ => ⟨cell_row (hW.blk 2 rfl) 1, froz_row (hW.blk 2 rfl) 1, X', hW.put 2 rfl 1 (.bool true) rfl⟩)
  refine doneO_QUEUE (U := NB) (Q := fun W => PaS w0 W base WB M r j e u ⟨4, D, pb, pi, E, F, ky, 0⟩ B) (ov := decide ((paE M ⟨4, D, pb, pi, E, F, ky, 0⟩).ln = 0)) (cell_row (hw.blk 0 rfl) 8) hst (fun W hW => ?_) (fun W hW => PaS.over okE hW)
  obtain ⟨X', hw'⟩ := hW
  refine ⟨cell_row (hw'.blk 0 rfl) 9, (queue_ hw' rfl).mono ?_⟩
  rintro e' w2 ⟨rfl, XB2, NB2, h2⟩
  exact ⟨rfl, PaS.none' rfl rfl (h.mkW rfl h2 ⟨XB2, NB2, rfl⟩)⟩
theorem pl_5 (h : PaW w0 w base WB M r j e u ⟨5, D, pb, pi, E, F, ky, o⟩ B X) (ok : PaOk ⟨5, D, pb, pi, E, F, ky, o⟩) (okE : PaOk (paE M ⟨5, D, pb, pi, E, F, ky, o⟩)) (ms : 0 ≤ M.sp ∧ M.sp ≤ 16) (hn : M.n ≤ 800000000) (hp : M.pn ≤ 800000000) (ap : AtPl w0 base M pb pi) : Calls Tryz.prog 31 #[Pw B, Pw WB] w fun e' w' => e' = .returned (.bool (decide ((paE M ⟨5, D, pb, pi, E, F, ky, o⟩).ln = 0))) ∧ PaS w0 w' base WB M r j e u ⟨5, D, pb, pi, E, F, ky, o⟩ B := by
  obtain ⟨l, hw, XB, NB, rfl⟩ := h.at'
  obtain rfl : o = 0 := ok.o (by show 5 ≠ 0; omega)
  have hst := ostep_QUEUE1 (NB := NB) (Q := fun W => ∃ X', Wq w0 W base WB (queM M D (pb : Int) pi) r j [(B, pkO D pb pi (.iface 372 (Pw NB)) (fnV 219 #[] #[Pw XB]) 0), (XB, xO B), (NB, oneO (.func 214) #[] #[Pw XB] true)] X') (cell_row (hw.blk 2 rfl) 0) (cell_row (hw.blk 2 rfl) 1) (queue1_ (k := 1) hw rfl rfl ok.t (by omega) (by omega) ap.tab ap.b0 ap.inI ap.lt ap.q ap.n) (fun W ⟨X', hW⟩ => ⟨cell_row (hW.blk 2 rfl) 1, froz_row (hW.blk 2 rfl) 1, X', hW.put 2 rfl 1 (.bool true) rfl⟩)
  refine doneO_QUEUE2 (U := NB) (c0 := XB) (Q := fun W => PaS w0 W base WB M r j e u ⟨5, D, pb, pi, E, F, ky, 0⟩ B) (ov := decide ((paE M ⟨5, D, pb, pi, E, F, ky, 0⟩).ln = 0)) (cell_row (hw.blk 0 rfl) 8) hst (fun W hW => ?_) (fun W hW => PaS.over okE hW)
  obtain ⟨X', hw'⟩ := hW
  refine ⟨cell_row (hw'.blk 0 rfl) 9, (queue2_ (k := 1) hw' rfl rfl h.ju h.hu (hz_ pb pi)).mono ?_⟩
  rintro e' w2 ⟨rfl, U, h2⟩
  exact ⟨rfl, PaS.atu rfl rfl (h.mkW List.length_set h2 ⟨U, rfl, List.getElem?_set_self h.hu⟩)⟩
theorem pl_2 (h : PaW w0 w base WB M r j e u ⟨2, D, pb, pi, E, F, ky, o⟩ B X) (ok : PaOk ⟨2, D, pb, pi, E, F, ky, o⟩) (okE : PaOk (paE M ⟨2, D, pb, pi, E, F, ky, o⟩)) (ms : 0 ≤ M.sp ∧ M.sp ≤ 16) (hn : M.n ≤ 800000000) (hp : M.pn ≤ 800000000) (hlk : ∀ a, S2.look M.L a < 18446744073709551616) : Calls Tryz.prog 31 #[Pw B, Pw WB] w fun e' w' => e' = .returned (.bool (decide ((paE M ⟨2, D, pb, pi, E, F, ky, o⟩).ln = 0))) ∧ PaS w0 w' base WB M r j e u ⟨2, D, pb, pi, E, F, ky, o⟩ B := by
  obtain ⟨l, hw, c, XB, CB, LB, LX, VB, hc, rfl⟩ := h.at'
  obtain rfl : o = 0 := ok.o (by show 2 ≠ 0; omega)
  have hcb := ok.hk c hc
  obtain ⟨t, k, z, on, at_, hk⟩ := D
  obtain rfl : hk = some c := hc
  obtain ⟨ca, cl, cn, cc⟩ := c
  obtain ⟨n, hnn⟩ : ∃ n, n = S2.look M.L ca := ⟨_, rfl⟩
  have hn64 : n < 18446744073709551616 := hnn ▸ hlk ca
  have hM : paM M ⟨2, ⟨t, k, z, on, at_, some ⟨ca, cl, cn, cc⟩⟩, pb, pi, E, F, ky, 0⟩ = M.acc 1 ca (S2.look M.L ca) := rfl
  have hcv := cval1_ (kl := 3) (kx := 4) (kc := 2) hw rfl rfl rfl ⟨by omega, by omega⟩ hcb.1 (by omega)
  rw [← hnn] at hcv
  have hst := ostep_CVAL1 (NB := LB) (Q := fun W => ∃ X', Wq w0 W base WB (M.acc 1 ca n) r j [(B, pkO ⟨t, k, z, on, at_, some ⟨ca, cl, cn, cc⟩⟩ pb pi (.iface 440 (Pw LB)) (fnV 157 #[] #[Pw VB, Pw XB]) 0), (XB, xO B), (CB, ckO ⟨ca, cl, cn, cc⟩), (LB, lookO ⟨ca, cl, cn, cc⟩ CB LX true n), (LX, .cells #[Pw LB] 440 (0, 0)), (VB, .cells #[.iface 440 (Pw LB)] 314 (0, 0))] X') (cell_row (hw.blk 3 rfl) 0) (cell_row (hw.blk 3 rfl) 1) hcv (fun W ⟨X', hW⟩ => ⟨cell_row (hW.blk 3 rfl) 1, froz_row (hW.blk 3 rfl) 1, X', hW.put 3 rfl 1 (.bool true) rfl⟩)
  refine doneL_VAL1 (U := LB) (c0 := VB) (c1 := XB) (Q := fun W => PaS w0 W base WB M r j e u ⟨2, ⟨t, k, z, on, at_, some ⟨ca, cl, cn, cc⟩⟩, pb, pi, E, F, ky, 0⟩ B) (ov := decide ((paE M ⟨2, ⟨t, k, z, on, at_, some ⟨ca, cl, cn, cc⟩⟩, pb, pi, E, F, ky, 0⟩).ln = 0)) (cell_row (hw.blk 0 rfl) 8) hst (fun W hW => ?_) (fun W hW => PaS.over okE hW)
  obtain ⟨X', hw'⟩ := hW
  refine ⟨cell_row (hw'.blk 0 rfl) 9, ?_⟩
  rw [← hnn] at hM
  by_cases hh : Ck.holds ⟨ca, cl, cn, cc⟩ n = true
  · have hE : paE M ⟨2, ⟨t, k, z, on, at_, some ⟨ca, cl, cn, cc⟩⟩, pb, pi, E, F, ky, 0⟩ = ⟨4, ⟨t, k, z, on, at_, some ⟨ca, cl, cn, cc⟩⟩, pb, pi, E, F, ky, 0⟩ := if_pos (hnn ▸ hh)
    refine (val1_y (kx := 1) (kv := 5) (kl := 3) hw' rfl rfl rfl rfl hcb.2.1 hcb.2.2.1 hn64 hh).mono ?_
    rintro e' w2 ⟨rfl, XB2, NB2, h2⟩
    exact ⟨rfl, PaS.none' hM hE (h.mkW rfl h2 ⟨XB2, NB2, rfl⟩)⟩
  · have hE : paE M ⟨2, ⟨t, k, z, on, at_, some ⟨ca, cl, cn, cc⟩⟩, pb, pi, E, F, ky, 0⟩ = ⟨3, ⟨t, k, z, on, at_, some ⟨ca, cl, cn, cc⟩⟩, pb, pi, E, fr0 (plA pb pi), ky, 0⟩ := if_neg (hnn ▸ hh)
    refine (val1_n (kx := 1) (kv := 5) (kl := 3) hw' rfl rfl rfl rfl hcb.2.1 hcb.2.2.1 hn64 (by simpa using hh) h.ju h.hu (hz_ pb pi)).mono ?_
    rintro e' w2 ⟨rfl, h2⟩
    exact ⟨rfl, h.left1 rfl h2 hM hE⟩
theorem pl_12 (h : PaW w0 w base WB M r j e u ⟨12, D, pb, pi, E, F, ky, o⟩ B X) (ok : PaOk ⟨12, D, pb, pi, E, F, ky, o⟩) (okE : PaOk (paE M ⟨12, D, pb, pi, E, F, ky, o⟩)) (ms : 0 ≤ M.sp ∧ M.sp ≤ 16) (hn : M.n ≤ 800000000) (hp : M.pn ≤ 800000000) : Calls Tryz.prog 31 #[Pw B, Pw WB] w fun e' w' => e' = .returned (.bool (decide ((paE M ⟨12, D, pb, pi, E, F, ky, o⟩).ln = 0))) ∧ PaS w0 w' base WB M r j e u ⟨12, D, pb, pi, E, F, ky, o⟩ B := by
  obtain ⟨l, hw, c, XB, CB, NB, hc, rfl⟩ := h.at'
  obtain rfl : o = 0 := ok.o (by show 12 ≠ 0; omega)
  have hcb := ok.hk c hc
  obtain ⟨t, k, z, on, at_, hk⟩ := D
  obtain rfl : hk = some c := hc
  obtain ⟨ca, cl, cn, cc⟩ := c
  have hst := ostep_CLATE1 (NB := NB) (Q := fun W => ∃ X', Wq w0 W base WB (M.acc 6 ca (S2.look M.L ca &&& S2.cpl cc)) r j [(B, pkO ⟨t, k, z, on, at_, some ⟨ca, cl, cn, cc⟩⟩ pb pi (.iface 372 (Pw NB)) (fnV 273 #[] #[Pw XB]) 0), (XB, xO B), (CB, ckO ⟨ca, cl, cn, cc⟩), (NB, oneO (.func 311) #[] #[Pw CB] true)] X') (cell_row (hw.blk 3 rfl) 0) (cell_row (hw.blk 3 rfl) 1) (clate1_ (kc := 2) hw rfl hcb.1 hcb.2.2.2 (by omega)) (fun W ⟨X', hW⟩ => ⟨cell_row (hW.blk 3 rfl) 1, froz_row (hW.blk 3 rfl) 1, X', hW.put 3 rfl 1 (.bool true) rfl⟩)
  refine doneO_LATE1 (U := NB) (c0 := XB) (Q := fun W => PaS w0 W base WB M r j e u ⟨12, ⟨t, k, z, on, at_, some ⟨ca, cl, cn, cc⟩⟩, pb, pi, E, F, ky, 0⟩ B) (ov := decide ((paE M ⟨12, ⟨t, k, z, on, at_, some ⟨ca, cl, cn, cc⟩⟩, pb, pi, E, F, ky, 0⟩).ln = 0)) (cell_row (hw.blk 0 rfl) 8) hst (fun W hW => ?_) (fun W hW => PaS.over okE hW)
  obtain ⟨X', hw'⟩ := hW
  refine ⟨cell_row (hw'.blk 0 rfl) 9, (late1_ (k := 1) hw' rfl rfl h.ju h.hu (hz_ pb pi)).mono ?_⟩
  rintro e' w2 ⟨rfl, h2⟩
  exact ⟨rfl, h.left3 rfl h2 rfl rfl⟩
theorem slp_le {M : Sd} {D : Pd} : slpG M D = 0 ∨ slpG M D = 1 ∨ slpG M D = 2 := by
  unfold slpG S4.untilO
  split <;> split <;> (try split) <;> simp
theorem sstep_ {l : Rows} {SB ks : Nat} (h : Wq w0 w base WB M r j l X) (hs : l[ks]? = some (SB, slpO D.t D.on D.at' 0)) (ht : D.t < 64) (hpn : M.pn ≤ 1000000000) :
    Calls Tryz.prog 303 #[Pw SB, Pw WB] w fun e' w' => e' = .returned (.bool (decide (slpG M D ≠ 0))) ∧ ∃ X', Wq w0 w' base WB (if D.on then M.until (2 * D.t) D.at' else M.park (2 * D.t)) r j (l.set ks (SB, slpO D.t D.on D.at' (slpG M D))) X' := by
  by_cases hon : D.on = true
  · rw [if_pos hon]
    exact sstep_u h hs hon ht hpn _ (if_pos hon)
  · have hof : D.on = false := by simpa using hon
    rw [if_neg hon]
    exact sstep_p h hs hof ht hpn _ (if_neg hon)
theorem pl_8 (h : PaW w0 w base WB M r j e u ⟨8, D, pb, pi, E, F, ky, o⟩ B X) (ok : PaOk ⟨8, D, pb, pi, E, F, ky, o⟩) (okE : PaOk (paE M ⟨8, D, pb, pi, E, F, ky, o⟩)) (ms : 0 ≤ M.sp ∧ M.sp ≤ 16) (hn : M.n ≤ 800000000) (hp : M.pn ≤ 800000000) : Calls Tryz.prog 31 #[Pw B, Pw WB] w fun e' w' => e' = .returned (.bool (decide ((paE M ⟨8, D, pb, pi, E, F, ky, o⟩).ln = 0))) ∧ PaS w0 w' base WB M r j e u ⟨8, D, pb, pi, E, F, ky, o⟩ B := by
  obtain ⟨l, hw, SB, XB, VB, rfl⟩ := h.at'
  obtain rfl : o = 0 := ok.o (by show 8 ≠ 0; omega)
  have hst := sstep_ (ks := 3) hw rfl ok.t (by omega)
  have hM : paM M ⟨8, D, pb, pi, E, F, ky, 0⟩ = (if D.on then M.until (2 * D.t) D.at' else M.park (2 * D.t)) := rfl
  rcases slp_le (M := M) (D := D) with h0 | h1 | h2
  · rw [h0] at hst
    have hE : paE M ⟨8, D, pb, pi, E, F, ky, 0⟩ = ⟨8, D, pb, pi, E, F, ky, 0⟩ := if_pos h0
    have hd : decide ((paE M ⟨8, D, pb, pi, E, F, ky, 0⟩).ln = 0) = false := by rw [hE]; rfl
    have hne : (paE M ⟨8, D, pb, pi, E, F, ky, 0⟩).ln ≠ 0 := of_decide_eq_false hd
    rw [hd]
    refine moreS (U := SB) (Q := fun W => PaS w0 W base WB M r j e u ⟨8, D, pb, pi, E, F, ky, 0⟩ B) (cell_row (hw.blk 0 rfl) 8) (hst.mono ?_) (fun W hW => PaS.has okE hne hW)
    rintro e' w2 ⟨rfl, X', hw'⟩
    exact ⟨rfl, PaS.none' hM hE (h.mkW rfl hw' ⟨SB, XB, VB, rfl⟩)⟩
  · rw [h1] at hst
    have hE : paE M ⟨8, D, pb, pi, E, F, ky, 0⟩ = ⟨0, D, pb, pi, E, F, ky, 2⟩ := (if_neg (by rw [h1]; omega)).trans (if_neg (by rw [h1]; omega))
    refine doneS_SLEEP1 (U := SB) (c0 := VB) (c1 := XB) (Q := fun W => PaS w0 W base WB M r j e u ⟨8, D, pb, pi, E, F, ky, 0⟩ B) (ov := decide ((paE M ⟨8, D, pb, pi, E, F, ky, 0⟩).ln = 0)) (cell_row (hw.blk 0 rfl) 8) hst (fun W hW => ?_) (fun W hW => PaS.over okE hW)
    obtain ⟨X', hw'⟩ := hW
    refine ⟨cell_row (hw'.blk 0 rfl) 9, (sleep1_g (kx := 1) (kv := 2) (ks := 3) hw' rfl rfl rfl rfl).mono ?_⟩
    rintro e' w2 ⟨rfl, h2⟩
    have h3 : Wq w0 w2 base WB (if D.on then M.until (2 * D.t) D.at' else M.park (2 * D.t)) r j [(B, pkO D pb pi .nilIface .nilFunc 2)] X' := h2.only (fun x hx => by rw [List.mem_singleton] at hx; rw [hx]; exact List.mem_cons_self) (by simp)
    exact ⟨rfl, PaS.none' hM hE (h.mkW rfl h3 rfl)⟩
  · rw [h2] at hst
    have hE : paE M ⟨8, D, pb, pi, E, F, ky, 0⟩ = ⟨9, D, pb, pi, ow0 D.t, F, ky, 0⟩ := (if_neg (by rw [h2]; omega)).trans (if_pos h2)
    refine doneS_SLEEP1 (U := SB) (c0 := VB) (c1 := XB) (Q := fun W => PaS w0 W base WB M r j e u ⟨8, D, pb, pi, E, F, ky, 0⟩ B) (ov := decide ((paE M ⟨8, D, pb, pi, E, F, ky, 0⟩).ln = 0)) (cell_row (hw.blk 0 rfl) 8) hst (fun W hW => ?_) (fun W hW => PaS.over okE hW)
    obtain ⟨X', hw'⟩ := hW
    refine ⟨cell_row (hw'.blk 0 rfl) 9, (sleep1_l (kx := 1) (kv := 2) (ks := 3) hw' rfl rfl rfl (own_ hw' rfl h.je h.he h.hu h.eu ok.t)).mono ?_⟩
    rintro e' w2 ⟨rfl, Z, XB2, VB2, h2, hs2⟩
    exact ⟨rfl, PaS.ate hM hE (h.mkW List.length_set h2 ⟨Z, XB2, VB2, rfl, hs2⟩)⟩
theorem pl_10 (h : PaW w0 w base WB M r j e u ⟨10, D, pb, pi, E, F, ky, o⟩ B X) (ok : PaOk ⟨10, D, pb, pi, E, F, ky, o⟩) (okE : PaOk (paE M ⟨10, D, pb, pi, E, F, ky, o⟩)) (ms : 0 ≤ M.sp ∧ M.sp ≤ 16) (hn : M.n ≤ 800000000) (hp : M.pn ≤ 800000000) (ap : AtPl w0 base M pb pi) : Calls Tryz.prog 31 #[Pw B, Pw WB] w fun e' w' => e' = .returned (.bool (decide ((paE M ⟨10, D, pb, pi, E, F, ky, o⟩).ln = 0))) ∧ PaS w0 w' base WB M r j e u ⟨10, D, pb, pi, E, F, ky, o⟩ B := by
  obtain ⟨l, hw, XB, KB, LB, QB, NB, rfl⟩ := h.at'
  obtain rfl : o = 0 := ok.o (by show 10 ≠ 0; omega)
  by_cases hlt : (M.pf (2 * D.t)).p = true
  · have hM : paM M ⟨10, D, pb, pi, E, F, ky, 0⟩ = M.late (2 * D.t) := if_pos hlt
    have hE : paE M ⟨10, D, pb, pi, E, F, ky, 0⟩ = ⟨11, D, pb, pi, E, fr0 (plA pb pi), ky, 0⟩ := if_pos hlt
    have hst := ostep_ASK1 (NB := NB) (Q := fun W => ∃ X', Wq w0 W base WB (M.late (2 * D.t)) r j [(B, pkO D pb pi (.iface 372 (Pw NB)) (fnV 270 #[] #[Pw LB, Pw XB, Pw KB, Pw QB]) 0), (XB, xO B), (KB, .cells #[.int .u32 (ky : Int)] 35 (0, 0)), (LB, .cells #[.bool false] 4 (0, 0)), (QB, .cells #[.bool false] 4 (0, 0)), (NB, oneO (.func 267) #[] #[Pw XB, Pw LB, Pw KB, Pw QB] true)] X') (cell_row (hw.blk 5 rfl) 0) (cell_row (hw.blk 5 rfl) 1) (ask1_n (kx := 1) (kl := 3) (kk := 2) (kq := 4) (ky := ky) hw rfl rfl rfl ⟨by omega, by omega⟩ ok.t (by omega) hlt) (fun W ⟨X', hW⟩ => ⟨cell_row (hW.blk 5 rfl) 1, froz_row (hW.blk 5 rfl) 1, X', hW.put 5 rfl 1 (.bool true) rfl⟩)
    refine doneO_ASK2 (U := NB) (c0 := LB) (c1 := XB) (c2 := KB) (c3 := QB) (Q := fun W => PaS w0 W base WB M r j e u ⟨10, D, pb, pi, E, F, ky, 0⟩ B) (ov := decide ((paE M ⟨10, D, pb, pi, E, F, ky, 0⟩).ln = 0)) (cell_row (hw.blk 0 rfl) 8) hst (fun W hW => ?_) (fun W hW => PaS.over okE hW)
    obtain ⟨X', hw'⟩ := hW
    refine ⟨cell_row (hw'.blk 0 rfl) 9, (ask2_n (kx := 1) (kl := 3) (kk := 2) (kq := 4) (ky := ky) (ls := false) hw' rfl rfl rfl h.ju h.hu (hz_ pb pi)).mono ?_⟩
    rintro e' w2 ⟨rfl, h2⟩
    exact ⟨rfl, h.left2 rfl h2 hM hE⟩
  · have hof : (M.pf (2 * D.t)).p = false := by simpa using hlt
    obtain ⟨gb, hgb⟩ : ∃ gb, gb = goneB (M.late (2 * D.t)) D.t (pb : Int) pi ky := ⟨_, rfl⟩
    have hM : paM M ⟨10, D, pb, pi, E, F, ky, 0⟩ = goneM (M.late (2 * D.t)) D.t (pb : Int) pi ky := if_neg hlt
    have hE : paE M ⟨10, D, pb, pi, E, F, ky, 0⟩ = lateE ⟨10, D, pb, pi, E, F, ky, 0⟩ gb D.hk := by rw [hgb]; exact if_neg hlt
    have hak := ask1_y (kx := 1) (kk := 2) (kl := 3) (kq := 4) hw rfl rfl rfl rfl rfl ⟨by omega, by omega⟩ ⟨by omega, by omega⟩ ok.t hof (by omega) (by omega) ap.tab ap.b0 ap.inI ap.lt ap.q ap.n
    rw [← hgb] at hak
    have hst := ostep_ASK1 (NB := NB) (Q := fun W => ∃ X', Wq w0 W base WB (goneM (M.late (2 * D.t)) D.t (pb : Int) pi ky) r j [(B, pkO D pb pi (.iface 372 (Pw NB)) (fnV 270 #[] #[Pw LB, Pw XB, Pw KB, Pw QB]) 0), (XB, xO B), (KB, .cells #[.int .u32 (ky : Int)] 35 (0, 0)), (LB, .cells #[.bool true] 4 (0, 0)), (QB, .cells #[.bool gb] 4 (0, 0)), (NB, oneO (.func 267) #[] #[Pw XB, Pw LB, Pw KB, Pw QB] true)] X') (cell_row (hw.blk 5 rfl) 0) (cell_row (hw.blk 5 rfl) 1) hak (fun W ⟨X', hW⟩ => ⟨cell_row (hW.blk 5 rfl) 1, froz_row (hW.blk 5 rfl) 1, X', hW.put 5 rfl 1 (.bool true) rfl⟩)
    refine doneO_ASK2 (U := NB) (c0 := LB) (c1 := XB) (c2 := KB) (c3 := QB) (Q := fun W => PaS w0 W base WB M r j e u ⟨10, D, pb, pi, E, F, ky, 0⟩ B) (ov := decide ((paE M ⟨10, D, pb, pi, E, F, ky, 0⟩).ln = 0)) (cell_row (hw.blk 0 rfl) 8) hst (fun W hW => ?_) (fun W hW => PaS.over okE hW)
    obtain ⟨X', hw'⟩ := hW
    refine ⟨cell_row (hw'.blk 0 rfl) 9, ask2_y (kx := 1) (kk := 2) (kl := 3) (kq := 4) hw' rfl rfl rfl rfl ?_⟩
    obtain ⟨t, k, z, on, at_, hk⟩ := D
    cases hk with
    | none =>
      refine (late_p hw' rfl h.ju h.hu (hz_ pb pi) ky gb).mono ?_
      rintro e' w2 ⟨rfl, h2⟩
      exact ⟨rfl, h.left3 rfl h2 hM hE⟩
    | some c =>
      obtain ⟨ca, cl, cn, cc⟩ := c
      by_cases hc : gb = true ∧ ¬ cc = 0
      · obtain ⟨rfl, hcc⟩ := hc
        have hE2 : paE M ⟨10, ⟨t, k, z, on, at_, some ⟨ca, cl, cn, cc⟩⟩, pb, pi, E, F, ky, 0⟩ = ⟨12, ⟨t, k, z, on, at_, some ⟨ca, cl, cn, cc⟩⟩, pb, pi, E, F, ky, 0⟩ := hE.trans (if_pos ⟨rfl, hcc⟩)
        refine (late_y hw' rfl ky hcc).mono ?_
        rintro e' w2 ⟨rfl, XB2, CB, NB2, h2⟩
        exact ⟨rfl, PaS.none' hM hE2 (h.mkW rfl h2 ⟨⟨ca, cl, cn, cc⟩, XB2, CB, NB2, rfl, rfl⟩)⟩
      · have hE2 : paE M ⟨10, ⟨t, k, z, on, at_, some ⟨ca, cl, cn, cc⟩⟩, pb, pi, E, F, ky, 0⟩ = ⟨13, ⟨t, k, z, on, at_, some ⟨ca, cl, cn, cc⟩⟩, pb, pi, E, fr0 (plA pb pi), ky, 0⟩ := hE.trans (if_neg hc)
        refine (late_n hw' rfl h.ju h.hu (hz_ pb pi) ky gb (by by_cases h1 : gb = true <;> by_cases h2 : cc = 0 <;> simp_all)).mono ?_
        rintro e' w2 ⟨rfl, h2⟩
        exact ⟨rfl, h.left3 rfl h2 hM hE2⟩
end
end Go.Proofs.YtieiiabbeglmfaaGreatDoor.S18
set_option linter.unusedVariables false
set_option linter.unusedSimpArgs false
namespace Go.Proofs.YtieiiabbeglmfaaGreatDoor.S18
set_option maxRecDepth 100000
set_option maxHeartbeats 16000000
open Go.Proofs.YtieiiabbeglmfaaGreatDoor Go.Proofs.YtieiiabbeglmfaaGreatDoor.S11 Go.Proofs.YtieiiabbeglmfaaGreatDoor.S12 Go.Proofs.YtieiiabbeglmfaaGreatDoor.S13 Go.Proofs.YtieiiabbeglmfaaGreatDoor.S14 Go.Proofs.YtieiiabbeglmfaaGreatDoor.S15 Go.Proofs.YtieiiabbeglmfaaGreatDoor.S16
open Go.RowKit
theorem eqH (T : TypeId) (v : Value) (w : World) : (binOp .eql 123 (.iface T v) .nilIface).run Tryz.prog w = .ok (.bool false) w := by kernel_rfl
theorem eqH0 (w : World) : (binOp .eql 123 .nilIface .nilIface).run Tryz.prog w = .ok (.bool true) w := by kernel_rfl
theorem as1 (v : Value) (w : World) : (Instr.typeAssert (.iface 118 v) 123 218 true).run Tryz.prog w = .ok (.tuple #[.pointer none, .bool false]) w := by kernel_rfl
theorem as2 (v : Value) (w : World) : (Instr.typeAssert (.iface 118 v) 123 219 true).run Tryz.prog w = .ok (.tuple #[.pointer none, .bool false]) w := by kernel_rfl
theorem as3 (v : Value) (w : World) : (Instr.typeAssert (.iface 439 v) 123 218 true).run Tryz.prog w = .ok (.tuple #[.pointer none, .bool false]) w := by kernel_rfl
theorem as4 (v : Value) (w : World) : (Instr.typeAssert (.iface 439 v) 123 219 true).run Tryz.prog w = .ok (.tuple #[.pointer none, .bool false]) w := by kernel_rfl
theorem asY (v : Value) (w : World) : (Instr.typeAssert (.iface 215 v) 72 215 true).run Tryz.prog w = .ok (.tuple #[v, .bool true]) w := by kernel_rfl
theorem asN_PENTER (v : Value) (w : World) : (Instr.typeAssert (.iface 70 v) 72 215 true).run Tryz.prog w = .ok (.tuple #[.pointer none, .bool false]) w := by kernel_rfl
theorem asN_PLOOK (v : Value) (w : World) : (Instr.typeAssert (.iface 440 v) 72 215 true).run Tryz.prog w = .ok (.tuple #[.pointer none, .bool false]) w := by kernel_rfl
theorem asN_PONE (v : Value) (w : World) : (Instr.typeAssert (.iface 372 v) 72 215 true).run Tryz.prog w = .ok (.tuple #[.pointer none, .bool false]) w := by kernel_rfl
theorem asN_PFREE (v : Value) (w : World) : (Instr.typeAssert (.iface 73 v) 72 215 true).run Tryz.prog w = .ok (.tuple #[.pointer none, .bool false]) w := by kernel_rfl
theorem asN_POWN (v : Value) (w : World) : (Instr.typeAssert (.iface 411 v) 72 215 true).run Tryz.prog w = .ok (.tuple #[.pointer none, .bool false]) w := by kernel_rfl
def HkOf (v : Value) (hk : Option Ck) : Prop := v = hkV hk ∨ (v = .nilIface ∧ hk = none)
theorem there_any {v : Value} {hk : Option Ck} (h : HkOf v hk) (w : World) : Calls Tryz.prog 47 #[v] w fun e w' => e = .returned (hkV hk) ∧ w = w' := by
  rcases h with rfl | ⟨rfl, rfl⟩
  · cases hk with
    | none =>
      show Calls Tryz.prog 47 #[.iface 118 (.agg #[])] w fun e w' => e = .returned (.iface 118 (.agg #[])) ∧ w = w'
      have e1 := eqH 118 (.agg #[])
      have e2 := as1 (.agg #[])
      have e3 := as2 (.agg #[])
      go_enter Tryz.func47, Tryz.ntmps47
      go_wp2_with fail
      go_ret
      exact ⟨rfl, rfl⟩
    | some c =>
      show Calls Tryz.prog 47 #[.iface 439 (.agg c.cs)] w fun e w' => e = .returned (.iface 439 (.agg c.cs)) ∧ w = w'
      generalize Value.agg c.cs = v
      have e1 := eqH 439 v
      have e2 := as3 v
      have e3 := as4 v
      go_enter Tryz.func47, Tryz.ntmps47
      go_wp2_with fail
      go_ret
      exact ⟨rfl, rfl⟩
  · show Calls Tryz.prog 47 #[.nilIface] w fun e w' => e = .returned (.iface 118 (.agg #[])) ∧ w = w'
    have e1 := eqH0
    go_enter Tryz.func47, Tryz.ntmps47
    go_wp2_with fail
    go_ret
    exact ⟨rfl, rfl⟩
section
variable {w0 w w' : World} {base WB : Nat} {M : Sd} {r : List Part} {j e u B : Nat} {l l' : Rows} {X : Wm} {D : Pd} {pb pi ky o : Nat} {E : En} {F : Fr}
theorem new_park {v : Value} (h : Wq w0 w base WB M r j [] X) (hv : HkOf v D.hk) (hje : j ≠ e) (hju : j ≠ u) (he : e < r.length) (hu : u < r.length) (heu : e ≠ u) (ht : D.t < 64) (hk : D.k < 4294967296) :
    Calls Tryz.prog 11 #[.int .i64 (D.t : Int), .int .u32 (D.k : Int), .int .u64 (D.z : Int), .agg #[.bool D.on, .int .u64 (D.at' : Int)], v] w fun e' w' => ∃ B, e' = .returned (Pw B) ∧ ∃ q, PaW w0 w' base WB M (r.set e q) j e u (pa0 D) B X := by
  obtain ⟨t, k, z, on, at_, hh⟩ := D
  have e1 : decide ((t : Int) < 0) = false := decide_eq_false (by omega)
  have ht' : t < 64 := ht
  have e2 : decide (64 ≤ (t : Int)) = false := decide_eq_false (by omega)
  have HT := Lib.hid (fun W => there_any hv W)
  have HEN := Lib.hid (fun (W : World) (B : Nat) (p : Wq w0 W base WB M r j [(B, pkO ⟨t, k, z, on, at_, hh⟩ ((0 : Nat) : Int) ((0 : Nat) : Int) .nilIface .nilFunc 0)] X) => enter_ p rfl hje he hu heu ht hk)
  have H := Lib.hid h
  have HJ := Lib.hid (And.intro hje (And.intro hju (And.intro he (And.intro hu heu))))
  have b1 : (w.alloc (.cells #[.bool on, .int .u64 (at_ : Int)] 31)).cell? ⟨w.heap.size, 0, none⟩ = some (.bool on) := cell_row (heap_alloc_new w _) 0
  have b2 : (w.alloc (.cells #[.bool on, .int .u64 (at_ : Int)] 31)).cell? ⟨w.heap.size, 1, none⟩ = some (.int .u64 (at_ : Int)) := cell_row (heap_alloc_new w _) 1
  have hb := below1 w (.cells #[.bool on, .int .u64 (at_ : Int)] 31)
  obtain ⟨UB, hU⟩ : ∃ UB, UB = w.heap.size := ⟨_, rfl⟩
  rw [← hU] at b1 b2
  have HU := Lib.hid hU
  obtain ⟨w1, hw1⟩ : ∃ w1, w1 = w.alloc (.cells #[.bool on, .int .u64 (at_ : Int)] 31) := ⟨_, rfl⟩
  rw [← hw1] at b1 b2 hb
  have HW := Lib.hid hw1
  have h1 := h.new hb
  have H1 := Lib.hid h1
  clear h hv hje hju he hu heu ht hk hU hw1 hb h1 ht'
  obtain ⟨T1, x1, hvh⟩ : ∃ T1 x1, hkV hh = .iface T1 x1 := by cases hh <;> exact ⟨_, _, rfl⟩
  simp only [hvh] at HT
  have HVH := Lib.hid hvh
  clear hvh
  go_enter Tryz.func11, Tryz.ntmps11
  go_upto_region 1 with fail
  rw [← HW.out, ← HU.out]
  go_upto_region 3 with fail
  go_region_law (go_simp; go_at_call 47; refine (HT.out _).mono ?_; rintro e' w2 ⟨rfl, rfl⟩)
  all_goals
    have h2 := H1.out.push (pkO ⟨t, k, z, on, at_, hh⟩ ((0 : Nat) : Int) ((0 : Nat) : Int) .nilIface .nilFunc 0)
    have hv2 := HVH.out
    rw [List.nil_append] at h2
    have e9 : pkO ⟨t, k, z, on, at_, hh⟩ ((0 : Nat) : Int) ((0 : Nat) : Int) .nilIface .nilFunc 0 = .cells #[.int .i64 (t : Int), .int .u32 (k : Int), .int .u64 (z : Int), .bool on, .int .u64 (at_ : Int), .iface T1 x1, .int .i64 0, .int .i64 0, .nilIface, .nilFunc, .int .u8 0] 125 := by
      show Obj.cells #[.int .i64 (t : Int), .int .u32 (k : Int), .int .u64 (z : Int), .bool on, .int .u64 (at_ : Int), hkV hh, .int .i64 0, .int .i64 0, .nilIface, .nilFunc, .int .u8 0] 125 = _
      rw [hv2]
    have H2 := Lib.hid h2
    have E9 := Lib.hid e9
    clear h2 hv2 e9
    rw [← E9.out]
    have HE := Lib.hid (HEN.out _ _ (H2.out.new (Below.refl _ _).drew))
    generalize (w1.alloc (pkO ⟨t, k, z, on, at_, hh⟩ ((0 : Nat) : Int) ((0 : Nat) : Int) .nilIface .nilFunc 0)).drew = w3 at *
    generalize w1.heap.size = B at *
    go_wp2_with (go_at_call 48; refine HE.out.mono ?_; rintro e' w4 ⟨rfl, h4⟩)
    go_ret
    obtain ⟨Z, XB, VB, h5, h6⟩ := h4
    exact ⟨B, rfl, _, HJ.out.1, HJ.out.2.1, HJ.out.2.2.2.2, by rw [List.length_set]; exact HJ.out.2.2.1, by rw [List.length_set]; exact HJ.out.2.2.2.1, _, h5, Z, XB, VB, rfl, h6⟩
theorem parked_over {x : Value} (hov : Calls Tryz.prog 81 #[x] w fun e w' => e = .returned (.bool true) ∧ w = w') : Calls Tryz.prog 45 #[x] w fun e w' => e = .returned (.bool false) ∧ w = w' := by
  have HOV := Lib.hid hov
  clear hov
  go_enter Tryz.func45, Tryz.ntmps45
  go_wp2_with (go_at_call 81; refine HOV.out.mono ?_; rintro e w1 ⟨rfl, rfl⟩)
  go_ret
  exact ⟨rfl, rfl⟩
theorem parked_by {T U : Nat} {b : Bool} {q : Value} (c8 : w.cell? ⟨B, 8, none⟩ = some (.iface T (Pw U))) (hT : ∀ W, (Instr.typeAssert (.iface T (Pw U)) 72 215 true).run Tryz.prog W = .ok (.tuple #[q, .bool b]) W) : Calls Tryz.prog 45 #[Pw B] w fun e w' => e = .returned (.bool b) ∧ w = w' := by
  have HOV := Lib.hid (over_no ⟨_, _, c8⟩)
  go_enter Tryz.func45, Tryz.ntmps45
  go_wp2_with (go_at_call 81; refine HOV.out.mono ?_; rintro e w1 ⟨rfl, rfl⟩)
  go_ret
  exact ⟨rfl, rfl⟩
theorem PaW.parked {P : Pa} (h : PaW w0 w base WB M r j e u P B X) (h13 : P.ln ≤ 13) (h7 : P.ln ≠ 7) : Calls Tryz.prog 45 #[Pw B] w fun e w' => e = .returned (.bool (decide (P.ln = 8))) ∧ w = w' := by
  obtain ⟨l, hw, hs⟩ := h.at'
  have hov := h.over h13 h7
  obtain ⟨ln, D, pb, pi, E, F, ky, o⟩ := P
  have hln : ln ≤ 13 := h13
  have hl7 : ln ≠ 7 := h7
  rcases (show ln = 0 ∨ ln = 1 ∨ ln = 2 ∨ ln = 3 ∨ ln = 4 ∨ ln = 5 ∨ ln = 6 ∨ ln = 8 ∨ ln = 9 ∨ ln = 10 ∨ ln = 11 ∨ ln = 12 ∨ ln = 13 by omega) with rfl | rfl | rfl | rfl | rfl | rfl | rfl | rfl | rfl | rfl | rfl | rfl | rfl
  · exact parked_over hov
  · obtain ⟨Z, XB, VB, rfl, _⟩ := hs; exact parked_by (cell_row (hw.blk 0 rfl) 8) (asN_PENTER _)
  · obtain ⟨c, XB, CB, LB, LX, VB, _, rfl⟩ := hs; exact parked_by (cell_row (hw.blk 0 rfl) 8) (asN_PLOOK _)
  · obtain ⟨U, XB, OB, rfl, _⟩ := hs; exact parked_by (cell_row (hw.blk 0 rfl) 8) (asN_PFREE _)
  · obtain ⟨XB, NB, rfl⟩ := hs; exact parked_by (cell_row (hw.blk 0 rfl) 8) (asN_PONE _)
  · obtain ⟨XB, NB, rfl⟩ := hs; exact parked_by (cell_row (hw.blk 0 rfl) 8) (asN_PONE _)
  · obtain ⟨U, rfl, _⟩ := hs; exact parked_by (cell_row (hw.blk 0 rfl) 8) (asN_PFREE _)
  · obtain ⟨SB, XB, VB, rfl⟩ := hs; exact parked_by (cell_row (hw.blk 0 rfl) 8) (asY _)
  · obtain ⟨Z, XB, VB, rfl, _⟩ := hs; exact parked_by (cell_row (hw.blk 0 rfl) 8) (asN_POWN _)
  · obtain ⟨XB, KB, LB, QB, NB, rfl⟩ := hs; exact parked_by (cell_row (hw.blk 0 rfl) 8) (asN_PONE _)
  · obtain ⟨U, XB, OB, rfl, _⟩ := hs; exact parked_by (cell_row (hw.blk 0 rfl) 8) (asN_PFREE _)
  · obtain ⟨c, XB, CB, NB, _, rfl⟩ := hs; exact parked_by (cell_row (hw.blk 0 rfl) 8) (asN_PONE _)
  · obtain ⟨U, XB, OB, rfl, _⟩ := hs; exact parked_by (cell_row (hw.blk 0 rfl) 8) (asN_PFREE _)
end
end Go.Proofs.YtieiiabbeglmfaaGreatDoor.S18
