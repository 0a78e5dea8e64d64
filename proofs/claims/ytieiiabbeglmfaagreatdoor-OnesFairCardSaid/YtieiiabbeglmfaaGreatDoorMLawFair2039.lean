/- Texts of this seat, one behind the other. -/
import Derived.Test.YtieiiabbeglmfaaGreatDoorMLawFair201
import Derived.Test.YtieiiabbeglmfaaGreatDoorMLawFair2038
set_option linter.unusedVariables false
set_option linter.unusedSimpArgs false
set_option linter.unusedVariables false
set_option linter.unusedSimpArgs false
set_option linter.unusedVariables false
set_option linter.unusedSimpArgs false
namespace Go.Proofs.YtieiiabbeglmfaaGreatDoor.S18
set_option maxRecDepth 100000
set_option maxHeartbeats 16000000
open Go.Proofs.YtieiiabbeglmfaaGreatDoor Go.Proofs.YtieiiabbeglmfaaGreatDoor.S11 Go.Proofs.YtieiiabbeglmfaaGreatDoor.S12 Go.Proofs.YtieiiabbeglmfaaGreatDoor.S13 Go.Proofs.YtieiiabbeglmfaaGreatDoor.S14 Go.Proofs.YtieiiabbeglmfaaGreatDoor.S15 Go.Proofs.YtieiiabbeglmfaaGreatDoor.S16
open Go.RowKit
section
variable {w0 w w' : World} {base WB : Nat} {M : Sd} {r : List Part} {j e u B : Nat} {l l' : Rows} {X : Wm} {D : Pd} {pb pi : Int} {p b : Value} {o : Nat}
theorem _root_.Go.Proofs.YtieiiabbeglmfaaGreatDoor.S12.Pg.permk (h : Pg w0 w base WB M r X) {k p : Int} {f : Nat → S4.Pk} (l : S4.PSets w w' X.pB f ((X.pn : Int) + 1) k p) : ∃ X', Pg w0 w' base WB (M.call k p f) r X' ∧ X'.pB = X.pB ∧ X'.kB = X.kB := by
  obtain ⟨hp, hb⟩ := t_permits (i := 2) h.ps rfl l
  refine ⟨{ X with pf := f, pn := X.pn + 1, pk := k, pp := p }, ⟨hp, h.wB, ?_, h.bl.trans hb⟩, rfl, rfl⟩
  rw [← h.xm]; rfl
theorem _root_.Go.Proofs.YtieiiabbeglmfaaGreatDoor.S12.Pg.untilk (h : Pg w0 w base WB M r X) (hn : M.pn ≤ 1000000000) {i : Nat} (hi : i < 128) (at_ : Nat) :
    Calls Tryz.prog 304 #[Pw X.pB, .int .i64 (i : Int), .int .u64 (at_ : Int), .int .u64 (M.T : Int)] w fun e w' => e = .returned (.int .u8 (S4.untilO (M.pf i) at_ M.T : Nat)) ∧ ∃ X', Pg w0 w' base WB (M.until i at_) r X' ∧ X'.pB = X.pB ∧ X'.kB = X.kB := by
  have e2 : X.pn = M.pn := congrArg Sd.pn h.xm
  refine (S4.until_b h.pw.permits (by omega) hi at_ M.T _ _ rfl rfl).mono ?_
  rintro e w' ⟨rfl, hl⟩
  rw [show X.pf = M.pf from congrArg Sd.pf h.xm] at hl ⊢
  exact ⟨rfl, h.permk hl⟩
theorem ask1_n {XB LB KB QB kx kl kk kq ky : Nat} (h : Wq w0 w base WB M r j l X) (hb : l[0]? = some (B, pkO D pb pi p b o)) (hx : l[kx]? = some (XB, xO B)) (hl : l[kl]? = some (LB, .cells #[.bool false] 4 (0, 0))) (hne : kl ≠ 0 ∧ kl ≠ kx) (ht : D.t < 64) (hpn : M.pn ≤ 900000000) (hlt : (M.pf (2 * D.t)).p = true) :
    Calls Tryz.prog 267 #[Pw WB, Pw XB, Pw LB, Pw KB, Pw QB] w fun e' w' => e' = .returned (.tuple #[]) ∧ ∃ X', Wq w0 w' base WB (M.late (2 * D.t)) r j l X' := by
  have y0 : w.cell? ⟨XB, 0, none⟩ = some (Pw B) := cell_row (h.blk kx hx) 0
  have c0 : w.cell? ⟨B, 0, none⟩ = some (.int .i64 (D.t : Int)) := cell_row (h.blk 0 hb) 0
  have hp2 := h.pg.c.2.1
  obtain ⟨pB, hpB⟩ : ∃ pB, X.pB = pB := ⟨_, rfl⟩
  rw [hpB] at hp2
  have hlat := (h.new (Below.refl _ w).drew).pg.late (i := 2 * D.t) (by omega) (by omega)
  rw [hpB, hlt] at hlat
  obtain ⟨bl, hbl⟩ : ∃ bl, bl = !true := ⟨_, rfl⟩
  rw [← hbl] at hlat
  have HL := Lib.hid (lotc (W := w.drew) c0 ht); have HLT := Lib.hid hlat
  have H := Lib.hid h; have HBR := Lib.hid hb; have HXR := Lib.hid hx; have HLR := Lib.hid hl; have HNE := Lib.hid hne; have HBL := Lib.hid hbl
  clear h hb hx hl hne ht hpn hlt hpB hlat hbl
  go_enter Tryz.func267, Tryz.ntmps267
  refine wp_seq ?_
  refine wp_region_held_drew (S := fun w' => w'.cell? ⟨WB, 2, none⟩ = some (Pw pB) ∧ w'.cell? ⟨XB, 0, none⟩ = some (Pw B) ∧ w'.cell? ⟨B, 0, none⟩ = some (.int .i64 (D.t : Int))) (by kernel_rfl) ?_ (fun hHeld => ?_)
  · exact ⟨hp2, y0, c0⟩
  refine tA 0 ⟨some 6, .move (.tmp 0), 24, "parts.go:100", #[], none⟩ ?vkam1 ?rkam1
  (try simp only [Act.put, tC, tD, tE])
  refine tA 1 ⟨some 7, .nilCheck (.tmp 6), 0, "parts.go:100", #[⟨0, .data⟩], none⟩ ?vkam2 ?rkam2
  (try simp only [Act.put, tC, tD, tE])
  refine tA 2 ⟨some 8, .fieldAddr 47 (.tmp 7) 2, 0, "parts.go:100", #[⟨1, .data⟩], none⟩ ?vkam3 ?rkam3
  (try simp only [Act.put, tC, tD, tE])
  refine tA 3 ⟨some 9, .load 41 (.tmp 8), 41, "parts.go:100", #[⟨2, .data⟩], none⟩ ?vkam4 ?rkam4
  (try simp only [Act.put, tC, tD, tE])
  refine tA 4 ⟨some 10, .load 32 (.tmp 1), 32, "parts.go:100", #[], none⟩ ?vkam5 ?rkam5
  (try simp only [Act.put, tC, tD, tE])
  refine wpAnyH_ready (rs := [5]) (by kernel_rfl) (by simp) ?_
  refine AllReadyH.cons (o := ⟨some 11, .call ⟨.value (.func 216), #[.tmp 10], #[32]⟩, 3, "parts.go:100", #[⟨4, .data⟩], none⟩) rfl (fun Kq hKq => ?_) AllReadyH.nil
  go_simp
  (refine (HL.out).mono ?_; rintro e' w1 ⟨rfl, rfl⟩)
  refine hKq.out _ _ ?_ (fun hHeld => ?_)
  · exact hHeld
  clear hKq Kq
  (try simp only [Act.put, tC, tD, tE])
  refine wpAnyH_ready (rs := [6]) (by kernel_rfl) (by simp) ?_
  refine AllReadyH.cons (o := ⟨some 12, .call ⟨.value (.func 268), #[.tmp 9, .tmp 11], #[41, 3]⟩, 4, "parts.go:100", #[⟨3, .data⟩, ⟨5, .data⟩, ⟨5, .chain⟩], none⟩) rfl (fun Kq hKq => ?_) AllReadyH.nil
  go_simp
  (refine HLT.out.mono ?_; rintro e' w2 ⟨rfl, X2, h2, hpb2⟩; have H2 := Lib.hid (H.out.pgq h2); have HP2 := Lib.hid hpb2; clear h2 hpb2)
  refine hKq.out _ _ ?_ (fun hHeld => ?_)
  · exact ⟨by rw [← HP2.out]; exact H2.out.pg.c.2.1, cell_row (H2.out.blk kx (HXR.out)) 0, cell_row (H2.out.blk 0 (HBR.out)) 0⟩
  clear hKq Kq
  (try simp only [Act.put, tC, tD, tE])
  refine wpAnyH_ready (rs := [7]) (by kernel_rfl) (by simp) ?_
  refine AllReadyH.cons (o := ⟨none, .store 4 (.tmp 2) (.tmp 12), 0, "parts.go:100", #[⟨6, .data⟩, ⟨6, .chain⟩, ⟨0, .phase⟩, ⟨1, .phase⟩, ⟨2, .phase⟩, ⟨3, .phase⟩, ⟨4, .phase⟩, ⟨5, .phase⟩, ⟨6, .phase⟩], none⟩) rfl (fun Kq hKq => ?_) AllReadyH.nil
  (have z0 : w2.cell? ⟨LB, 0, none⟩ = some (.bool false) := cell_row (H2.out.blk kl HLR.out) 0; have zf : w2.frozen? ⟨LB, 0, none⟩ = false := froz_row (H2.out.blk kl HLR.out) 0; go_simp; have h3 := H2.out.put kl HLR.out 0 (.bool bl) (cs' := #[.bool bl]) rfl; have H3 := Lib.hid h3; clear h3 z0 zf; generalize w2.setCell ⟨LB, 0, none⟩ (.bool bl) = w3 at *)
  refine hKq.out _ _ ?_ (fun hHeld => ?_)
  · exact ⟨by rw [← HP2.out]; exact H3.out.pg.c.2.1, cell_row (H3.out.blk kx ((List.getElem?_set_ne HNE.out.2).trans HXR.out)) 0, cell_row (H3.out.blk 0 ((List.getElem?_set_ne HNE.out.1).trans HBR.out)) 0⟩
  clear hKq Kq
  (try simp only [Act.put, tC, tD, tE])
  refine wpAnyH_done (by kernel_rfl) ?_ _
  clear hHeld y0 c0 hp2
  have hbl : bl = false := HBL.out
  subst hbl
  have e3 : l.set kl (LB, .cells #[.bool false] 4 (0, 0)) = l := by
    obtain ⟨q1, q2⟩ := List.getElem?_eq_some_iff.1 HLR.out
    rw [← q2]; exact List.set_getElem_self q1
  rw [e3] at H3
  have z1 : w3.cell? ⟨LB, 0, none⟩ = some (.bool false) := cell_row (H3.out.blk kl HLR.out) 0
  go_wp2_with fail
  go_end0
  exact ⟨rfl, X2, H3.out⟩
theorem ask1_y {XB LB KB QB kx kl kk kq ky pi : Nat} (h : Wq w0 w base WB M r j l X) (hb : l[0]? = some (B, pkO D pb (pi : Int) p b o)) (hx : l[kx]? = some (XB, xO B)) (hl : l[kl]? = some (LB, .cells #[.bool false] 4 (0, 0))) (hk : l[kk]? = some (KB, .cells #[.int .u32 (ky : Int)] 35 (0, 0))) (hq : l[kq]? = some (QB, .cells #[.bool false] 4 (0, 0))) (hne : kl ≠ 0 ∧ kl ≠ kx) (hne2 : kl ≠ kk ∧ kl ≠ kq) (ht : D.t < 64) (hlt : (M.pf (2 * D.t)).p = false)
    (hn : M.n ≤ 900000000) (hpn : M.pn ≤ 890000000) (hT : Tab w0) (hT1 : 0 < base) (hpb : S10.InI pb) (hpi : pi < (M.m pb).length) (hql : (qAt M pb pi).length ≤ 900) (hnl : M.nD.length ≤ 90000) :
    Calls Tryz.prog 267 #[Pw WB, Pw XB, Pw LB, Pw KB, Pw QB] w fun e' w' => e' = .returned (.tuple #[]) ∧ ∃ X', Wq w0 w' base WB (goneM (M.late (2 * D.t)) D.t pb pi ky) r j ((l.set kl (LB, .cells #[.bool true] 4 (0, 0))).set kq (QB, .cells #[.bool (goneB (M.late (2 * D.t)) D.t pb pi ky)] 4 (0, 0))) X' := by
  have y0 : w.cell? ⟨XB, 0, none⟩ = some (Pw B) := cell_row (h.blk kx hx) 0
  have c0 : w.cell? ⟨B, 0, none⟩ = some (.int .i64 (D.t : Int)) := cell_row (h.blk 0 hb) 0
  have hp2 := h.pg.c.2.1
  obtain ⟨pB, hpB⟩ : ∃ pB, X.pB = pB := ⟨_, rfl⟩
  rw [hpB] at hp2
  have hlat := (h.new (Below.refl _ w).drew).pg.late (i := 2 * D.t) (by omega) (by omega)
  rw [hpB, hlt] at hlat
  obtain ⟨bl, hbl⟩ : ∃ bl, bl = !false := ⟨_, rfl⟩
  rw [← hbl] at hlat
  have hg : ∀ W X', Wq w0 W base WB (M.late (2 * D.t)) r j (l.set kl (LB, .cells #[.bool true] 4 (0, 0))) X' → Calls Tryz.prog 269 #[Pw B, Pw WB, .int .u32 (ky : Int)] W fun e' w' => e' = .returned (.bool (goneB (M.late (2 * D.t)) D.t pb pi ky)) ∧ ∃ X', Wq w0 w' base WB (goneM (M.late (2 * D.t)) D.t pb pi ky) r j (l.set kl (LB, .cells #[.bool true] 4 (0, 0))) X' := fun W X' hW =>
    gone_ hW ((List.getElem?_set_ne hne.1).trans hb) ht hn (by show M.pn + 1 ≤ _; omega) hT hT1 hpb hpi hql hnl
  have HG := Lib.hid hg
  have HL := Lib.hid (lotc (W := w.drew) c0 ht); have HLT := Lib.hid hlat
  have H := Lib.hid h; have HBR := Lib.hid hb; have HXR := Lib.hid hx; have HLR := Lib.hid hl; have HNE := Lib.hid hne; have HBL := Lib.hid hbl; have HKR := Lib.hid hk; have HQR := Lib.hid hq; have HNE2 := Lib.hid hne2
  generalize goneB (M.late (2 * D.t)) D.t pb pi ky = gb at *
  generalize goneM (M.late (2 * D.t)) D.t pb pi ky = MG at *
  clear h hb hx hl hne ht hpn hlt hpB hlat hbl hk hq hne2 hn hT hT1 hpb hpi hql hnl hg
  go_enter Tryz.func267, Tryz.ntmps267
  refine wp_seq ?_
  refine wp_region_held_drew (S := fun w' => w'.cell? ⟨WB, 2, none⟩ = some (Pw pB) ∧ w'.cell? ⟨XB, 0, none⟩ = some (Pw B) ∧ w'.cell? ⟨B, 0, none⟩ = some (.int .i64 (D.t : Int))) (by kernel_rfl) ?_ (fun hHeld => ?_)
  · exact ⟨hp2, y0, c0⟩
  refine tA 0 ⟨some 6, .move (.tmp 0), 24, "parts.go:100", #[], none⟩ ?vkam1 ?rkam1
  (try simp only [Act.put, tC, tD, tE])
  refine tA 1 ⟨some 7, .nilCheck (.tmp 6), 0, "parts.go:100", #[⟨0, .data⟩], none⟩ ?vkam2 ?rkam2
  (try simp only [Act.put, tC, tD, tE])
  refine tA 2 ⟨some 8, .fieldAddr 47 (.tmp 7) 2, 0, "parts.go:100", #[⟨1, .data⟩], none⟩ ?vkam3 ?rkam3
  (try simp only [Act.put, tC, tD, tE])
  refine tA 3 ⟨some 9, .load 41 (.tmp 8), 41, "parts.go:100", #[⟨2, .data⟩], none⟩ ?vkam4 ?rkam4
  (try simp only [Act.put, tC, tD, tE])
  refine tA 4 ⟨some 10, .load 32 (.tmp 1), 32, "parts.go:100", #[], none⟩ ?vkam5 ?rkam5
  (try simp only [Act.put, tC, tD, tE])
  refine wpAnyH_ready (rs := [5]) (by kernel_rfl) (by simp) ?_
  refine AllReadyH.cons (o := ⟨some 11, .call ⟨.value (.func 216), #[.tmp 10], #[32]⟩, 3, "parts.go:100", #[⟨4, .data⟩], none⟩) rfl (fun Kq hKq => ?_) AllReadyH.nil
  go_simp
  (refine (HL.out).mono ?_; rintro e' w1 ⟨rfl, rfl⟩)
  refine hKq.out _ _ ?_ (fun hHeld => ?_)
  · exact hHeld
  clear hKq Kq
  (try simp only [Act.put, tC, tD, tE])
  refine wpAnyH_ready (rs := [6]) (by kernel_rfl) (by simp) ?_
  refine AllReadyH.cons (o := ⟨some 12, .call ⟨.value (.func 268), #[.tmp 9, .tmp 11], #[41, 3]⟩, 4, "parts.go:100", #[⟨3, .data⟩, ⟨5, .data⟩, ⟨5, .chain⟩], none⟩) rfl (fun Kq hKq => ?_) AllReadyH.nil
  go_simp
  (refine HLT.out.mono ?_; rintro e' w2 ⟨rfl, X2, h2, hpb2⟩; have H2 := Lib.hid (H.out.pgq h2); have HP2 := Lib.hid hpb2; clear h2 hpb2)
  refine hKq.out _ _ ?_ (fun hHeld => ?_)
  · exact ⟨by rw [← HP2.out]; exact H2.out.pg.c.2.1, cell_row (H2.out.blk kx (HXR.out)) 0, cell_row (H2.out.blk 0 (HBR.out)) 0⟩
  clear hKq Kq
  (try simp only [Act.put, tC, tD, tE])
  refine wpAnyH_ready (rs := [7]) (by kernel_rfl) (by simp) ?_
  refine AllReadyH.cons (o := ⟨none, .store 4 (.tmp 2) (.tmp 12), 0, "parts.go:100", #[⟨6, .data⟩, ⟨6, .chain⟩, ⟨0, .phase⟩, ⟨1, .phase⟩, ⟨2, .phase⟩, ⟨3, .phase⟩, ⟨4, .phase⟩, ⟨5, .phase⟩, ⟨6, .phase⟩], none⟩) rfl (fun Kq hKq => ?_) AllReadyH.nil
  (have z0 : w2.cell? ⟨LB, 0, none⟩ = some (.bool false) := cell_row (H2.out.blk kl HLR.out) 0; have zf : w2.frozen? ⟨LB, 0, none⟩ = false := froz_row (H2.out.blk kl HLR.out) 0; go_simp; have h3 := H2.out.put kl HLR.out 0 (.bool bl) (cs' := #[.bool bl]) rfl; have H3 := Lib.hid h3; clear h3 z0 zf; generalize w2.setCell ⟨LB, 0, none⟩ (.bool bl) = w3 at *)
  refine hKq.out _ _ ?_ (fun hHeld => ?_)
  · exact ⟨by rw [← HP2.out]; exact H3.out.pg.c.2.1, cell_row (H3.out.blk kx ((List.getElem?_set_ne HNE.out.2).trans HXR.out)) 0, cell_row (H3.out.blk 0 ((List.getElem?_set_ne HNE.out.1).trans HBR.out)) 0⟩
  clear hKq Kq
  (try simp only [Act.put, tC, tD, tE])
  refine wpAnyH_done (by kernel_rfl) ?_ _
  clear hHeld y0 c0 hp2
  have hbl : bl = true := HBL.out
  subst hbl
  have z1 : w3.cell? ⟨LB, 0, none⟩ = some (.bool true) := cell_row (H3.out.blk kl (List.getElem?_set_self (List.getElem?_eq_some_iff.1 HLR.out).1)) 0
  have z2 : w3.cell? ⟨XB, 0, none⟩ = some (Pw B) := cell_row (H3.out.blk kx ((List.getElem?_set_ne HNE.out.2).trans HXR.out)) 0
  have z3 : w3.cell? ⟨KB, 0, none⟩ = some (.int .u32 (ky : Int)) := cell_row (H3.out.blk kk ((List.getElem?_set_ne HNE2.out.1).trans HKR.out)) 0
  have HGG := Lib.hid (HG.out _ _ H3.out)
  go_wp2_with (go_at_call 269; refine HGG.out.mono ?_; rintro e' w4 ⟨rfl, X4, h4⟩; have z4 : w4.cell? ⟨QB, 0, none⟩ = some (.bool false) := cell_row (h4.blk kq ((List.getElem?_set_ne HNE2.out.2).trans HQR.out)) 0; have z5 : w4.frozen? ⟨QB, 0, none⟩ = false := froz_row (h4.blk kq ((List.getElem?_set_ne HNE2.out.2).trans HQR.out)) 0; have H4 := Lib.hid h4; clear h4)
  go_end0
  exact ⟨rfl, X4, H4.out.put kq ((List.getElem?_set_ne HNE2.out.2).trans HQR.out) 0 (.bool gb) (cs' := #[.bool gb]) rfl⟩
theorem cval1_ {LB CB LX kl kx kc n0 ca cl cn cc : Nat} {ov : Bool} (h : Wq w0 w base WB M r j l X) (hl : l[kl]? = some (LB, lookO ⟨ca, cl, cn, cc⟩ CB LX ov n0)) (hx : l[kx]? = some (LX, .cells #[Pw LB] 440 (0, 0))) (hc : l[kc]? = some (CB, ckO ⟨ca, cl, cn, cc⟩)) (hne : kl ≠ kx ∧ kl ≠ kc) (ha : ca < 4294967296) (hn : M.n ≤ 1000000000) :
    Calls Tryz.prog 312 #[Pw WB, Pw CB, Pw LX] w fun e' w' => e' = .returned (.tuple #[]) ∧ ∃ X', Wq w0 w' base WB (M.acc 1 ca (S2.look M.L ca)) r j (l.set kl (LB, lookO ⟨ca, cl, cn, cc⟩ CB LX ov (S2.look M.L ca))) X' := by
  have y0 : w.cell? ⟨LX, 0, none⟩ = some (Pw LB) := cell_row (h.blk kx hx) 0
  have y1 : w.cell? ⟨CB, 0, none⟩ = some (.int .u32 (ca : Int)) := cell_row (h.blk kc hc) 0
  have hc0 := h.pg.c.1
  obtain ⟨cb, hcb⟩ : ∃ cb, X.cB = cb := ⟨_, rfl⟩
  rw [hcb] at hc0
  have hld := (h.new (Below.refl _ w).drew).pg.load (a := ca) ha hn
  rw [hcb] at hld
  obtain ⟨u0, hu0⟩ : ∃ u0, u0 = S2.look M.L ca := ⟨_, rfl⟩
  rw [← hu0] at hld ⊢
  have HLD := Lib.hid hld; have H := Lib.hid h; have HXR := Lib.hid hx; have HLR := Lib.hid hl; have HCR := Lib.hid hc; have HNE := Lib.hid hne
  clear h hl hx hc hne ha hn hcb hld hu0
  go_enter Tryz.func312, Tryz.ntmps312
  refine wp_region_held_drew (S := fun w' => w'.cell? ⟨WB, 0, none⟩ = some (Pw cb) ∧ w'.cell? ⟨LX, 0, none⟩ = some (Pw LB) ∧ w'.cell? ⟨CB, 0, none⟩ = some (.int .u32 (ca : Int))) (by kernel_rfl) ?_ (fun hHeld => ?_)
  · exact ⟨hc0, y0, y1⟩
  refine tA 0 ⟨some 4, .load 440 (.tmp 2), 440, "hooks.go:65", #[], none⟩ ?vkbm1 ?rkbm1
  (try simp only [Act.put, tC, tD, tE])
  refine tA 1 ⟨some 5, .move (.tmp 0), 24, "hooks.go:65", #[], none⟩ ?vkbm2 ?rkbm2
  (try simp only [Act.put, tC, tD, tE])
  refine tA 2 ⟨some 6, .nilCheck (.tmp 5), 0, "hooks.go:65", #[⟨1, .data⟩], none⟩ ?vkbm3 ?rkbm3
  (try simp only [Act.put, tC, tD, tE])
  refine tA 3 ⟨some 7, .fieldAddr 47 (.tmp 6) 0, 0, "hooks.go:65", #[⟨2, .data⟩], none⟩ ?vkbm4 ?rkbm4
  (try simp only [Act.put, tC, tD, tE])
  refine tA 4 ⟨some 8, .load 39 (.tmp 7), 39, "hooks.go:65", #[⟨3, .data⟩], none⟩ ?vkbm5 ?rkbm5
  (try simp only [Act.put, tC, tD, tE])
  refine tA 5 ⟨some 9, .fieldAddr 439 (.tmp 1) 0, 0, "hooks.go:65", #[], none⟩ ?vkbm6 ?rkbm6
  (try simp only [Act.put, tC, tD, tE])
  refine tA 6 ⟨some 10, .load 35 (.tmp 9), 35, "hooks.go:65", #[⟨5, .data⟩], none⟩ ?vkbm7 ?rkbm7
  (try simp only [Act.put, tC, tD, tE])
  refine wpAnyH_ready (rs := [7]) (by kernel_rfl) (by simp) ?_
  refine AllReadyH.cons (o := ⟨some 11, .call ⟨.value (.func 207), #[.tmp 8, .tmp 10], #[39, 35]⟩, 23, "hooks.go:65", #[⟨4, .data⟩, ⟨6, .data⟩], none⟩) rfl (fun Kq hKq => ?_) AllReadyH.nil
  go_simp
  (refine HLD.out.mono ?_; rintro e' w2 ⟨rfl, X2, h2, hc2⟩; have H2 := Lib.hid (H.out.pgq h2); have HC2 := Lib.hid hc2; clear h2 hc2)
  refine hKq.out _ _ ?_ (fun hHeld => ?_)
  · exact ⟨by rw [← HC2.out]; exact H2.out.pg.c.1, cell_row (H2.out.blk kx HXR.out) 0, cell_row (H2.out.blk kc HCR.out) 0⟩
  clear hKq Kq
  (try simp only [Act.put, tC, tD, tE])
  refine tA 8 ⟨some 12, .nilCheck (.tmp 4), 0, "hooks.go:65", #[⟨0, .data⟩, ⟨0, .phase⟩, ⟨1, .phase⟩, ⟨2, .phase⟩, ⟨3, .phase⟩, ⟨4, .phase⟩, ⟨5, .phase⟩, ⟨6, .phase⟩, ⟨7, .phase⟩], none⟩ ?vkbm8 ?rkbm8
  (try simp only [Act.put, tC, tD, tE])
  refine tA 9 ⟨some 13, .fieldAddr 442 (.tmp 12) 2, 0, "hooks.go:65", #[⟨8, .data⟩, ⟨0, .phase⟩, ⟨1, .phase⟩, ⟨2, .phase⟩, ⟨3, .phase⟩, ⟨4, .phase⟩, ⟨5, .phase⟩, ⟨6, .phase⟩, ⟨7, .phase⟩], none⟩ ?vkbm9 ?rkbm9
  (try simp only [Act.put, tC, tD, tE])
  refine wpAnyH_ready (rs := [10]) (by kernel_rfl) (by simp) ?_
  refine AllReadyH.cons (o := ⟨none, .store 23 (.tmp 13) (.tmp 11), 0, "hooks.go:65", #[⟨9, .data⟩, ⟨7, .data⟩, ⟨7, .chain⟩, ⟨0, .phase⟩, ⟨1, .phase⟩, ⟨2, .phase⟩, ⟨3, .phase⟩, ⟨4, .phase⟩, ⟨5, .phase⟩, ⟨6, .phase⟩, ⟨7, .phase⟩], none⟩) rfl (fun Kq hKq => ?_) AllReadyH.nil
  (have z0 : w2.cell? ⟨LB, 6, none⟩ = some (.int .u64 (n0 : Int)) := cell_row (H2.out.blk kl HLR.out) 6; have zf : w2.frozen? ⟨LB, 6, none⟩ = false := froz_row (H2.out.blk kl HLR.out) 6; go_simp; have h3 := H2.out.put kl HLR.out 6 (.int .u64 (u0 : Int)) (cs' := #[fnV 312 #[] #[Pw CB, Pw LX], .bool ov, .int .u32 (ca : Int), .int .u64 (cl : Int), .int .u64 (cn : Int), .int .u64 (cc : Int), .int .u64 (u0 : Int)]) rfl; have H3 := Lib.hid h3; clear h3 z0 zf; generalize w2.setCell ⟨LB, 6, none⟩ (.int .u64 (u0 : Int)) = w3 at *)
  refine hKq.out _ _ ?_ (fun hHeld => ?_)
  · exact ⟨by rw [← HC2.out]; exact H3.out.pg.c.1, cell_row (H3.out.blk kx ((List.getElem?_set_ne HNE.out.1).trans HXR.out)) 0, cell_row (H3.out.blk kc ((List.getElem?_set_ne HNE.out.2).trans HCR.out)) 0⟩
  clear hKq Kq
  (try simp only [Act.put, tC, tD, tE])
  refine wpAnyH_done (by kernel_rfl) ?_ _
  go_end0
  exact ⟨rfl, X2, H3.out⟩
theorem fstep_ {U : Nat} {Fq : Fr} (h : Wq w0 w base WB M r j l X) (hju : j ≠ u) (hu : r[u]? = some (freeP U Fq)) (ok : FrOk M Fq) (h7 : Fq.ln ≤ 7) :
    Calls Tryz.prog 151 #[Pw U, Pw WB] w fun e' w' => e' = .returned (.bool (decide ((fstepK M Fq).ln = 0))) ∧ ∃ X', Wq w0 w' base WB (fstepM M Fq) (r.set u (freeP U (fstepK M Fq))) j l X' := by
  refine (step_f (h.free hju hu) ok h7).mono ?_
  rintro e' w' ⟨rfl, X', h'⟩
  exact ⟨rfl, X', wq_free h' hju h.hj⟩
theorem sstep_u {SB ks : Nat} (h : Wq w0 w base WB M r j l X) (hs : l[ks]? = some (SB, slpO D.t D.on D.at' 0)) (hon : D.on = true) (ht : D.t < 64) (hpn : M.pn ≤ 1000000000) (g : Nat) (hg : g = S4.untilO (M.pf (2 * D.t)) D.at' M.T) :
    Calls Tryz.prog 303 #[Pw SB, Pw WB] w fun e' w' => e' = .returned (.bool (decide (g ≠ 0))) ∧ ∃ X', Wq w0 w' base WB (M.until (2 * D.t) D.at') r j (l.set ks (SB, slpO D.t D.on D.at' g)) X' := by
  have y0 : w.cell? ⟨SB, 0, none⟩ = some (.int .i64 (2 * (D.t : Int))) := cell_row (h.blk ks hs) 0
  have y1 : w.cell? ⟨SB, 1, none⟩ = some (.bool D.on) := cell_row (h.blk ks hs) 1
  have y2 : w.cell? ⟨SB, 2, none⟩ = some (.int .u64 (D.at' : Int)) := cell_row (h.blk ks hs) 2
  have hp2 := h.pg.c.2.1
  have hk1 := h.pg.k1
  obtain ⟨pB, hpB⟩ : ∃ pB, X.pB = pB := ⟨_, rfl⟩
  obtain ⟨kB, hkB⟩ : ∃ kB, X.kB = kB := ⟨_, rfl⟩
  rw [hpB] at hp2
  rw [hkB] at hk1
  have h64 : 2 * (D.t : Int) = ((2 * D.t : Nat) : Int) := by omega
  have hun := (h.new (Below.refl _ w).drew).pg.untilk (i := 2 * D.t) hpn (by omega) D.at'
  rw [hpB, ← h64, ← hg] at hun
  have hcl : Calls Tryz.prog 304 #[Pw pB, .int .i64 (2 * (D.t : Int)), .int .u64 (D.at' : Int), .int .u64 (M.T : Int)] w.drew fun e w' => e = .returned (.int .u8 (g : Int)) ∧ ∃ X', Pg w0 w' base WB (M.until (2 * D.t) D.at') (r.set j (rowsP l)) X' ∧ X'.pB = pB ∧ X'.kB = kB := by
    rw [hkB] at hun
    exact hun
  have hnw := (h.new (Below.refl _ w).drew).pg.clk
  rw [hkB] at hnw
  have HNW := Lib.hid hnw
  clear hun hnw
  generalize (M.T : Int) = now at *
  have HCL := Lib.hid hcl; have H := Lib.hid h; have HSR := Lib.hid hs
  have eg : ((g : Int) == 0) = decide (g = 0) := by rw [beqI]; exact decN0 g
  have eg2 : ((g : Int) != 0) = decide (g ≠ 0) := by show (!(_ == _)) = _; rw [eg]; by_cases e : g = 0 <;> simp [e]
  generalize decide (g ≠ 0) = bg at *
  have hon2 : some (Value.bool D.on) = some (.bool true) := by rw [hon]
  have y1' := y1.trans hon2
  clear h hs ht hpn hpB hkB hcl h64 hg eg
  go_enter Tryz.func303, Tryz.ntmps303
  go_upto_region 2 with fail
  clear y1' hon2
  refine wp_region_held_drew (S := fun w' => w'.cell? ⟨WB, 2, none⟩ = some (Pw pB) ∧ w'.cell? ⟨WB, 1, none⟩ = some (Pw kB) ∧ w'.cell? ⟨SB, 0, none⟩ = some (.int .i64 (2 * (D.t : Int))) ∧ w'.cell? ⟨SB, 1, none⟩ = some (.bool D.on) ∧ w'.cell? ⟨SB, 2, none⟩ = some (.int .u64 (D.at' : Int))) (by kernel_rfl) ?_ (fun hHeld => ?_)
  · exact ⟨hp2, hk1, y0, y1, y2⟩
  refine tA 0 ⟨some 10, .move (.tmp 0), 215, "parts.go:154", #[], none⟩ ?vkdam1 ?rkdam1
  (try simp only [Act.put, tC, tD, tE])
  refine tA 1 ⟨some 11, .move (.tmp 1), 24, "parts.go:154", #[], none⟩ ?vkdam2 ?rkdam2
  (try simp only [Act.put, tC, tD, tE])
  refine tA 2 ⟨some 12, .nilCheck (.tmp 11), 0, "parts.go:154", #[⟨1, .data⟩], none⟩ ?vkdam3 ?rkdam3
  (try simp only [Act.put, tC, tD, tE])
  refine tA 3 ⟨some 13, .fieldAddr 47 (.tmp 12) 2, 0, "parts.go:154", #[⟨2, .data⟩], none⟩ ?vkdam4 ?rkdam4
  (try simp only [Act.put, tC, tD, tE])
  refine tA 4 ⟨some 14, .load 41 (.tmp 13), 41, "parts.go:154", #[⟨3, .data⟩], none⟩ ?vkdam5 ?rkdam5
  (try simp only [Act.put, tC, tD, tE])
  refine tA 5 ⟨some 15, .move (.tmp 0), 215, "parts.go:154", #[], none⟩ ?vkdam6 ?rkdam6
  (try simp only [Act.put, tC, tD, tE])
  refine tA 6 ⟨some 16, .nilCheck (.tmp 15), 0, "parts.go:154", #[⟨5, .data⟩], none⟩ ?vkdam7 ?rkdam7
  (try simp only [Act.put, tC, tD, tE])
  refine tA 7 ⟨some 17, .fieldAddr 405 (.tmp 16) 0, 0, "parts.go:154", #[⟨6, .data⟩], none⟩ ?vkdam8 ?rkdam8
  (try simp only [Act.put, tC, tD, tE])
  refine tA 8 ⟨some 18, .load 3 (.tmp 17), 3, "parts.go:154", #[⟨7, .data⟩], none⟩ ?vkdam9 ?rkdam9
  (try simp only [Act.put, tC, tD, tE])
  refine tA 9 ⟨some 19, .move (.tmp 0), 215, "parts.go:154", #[], none⟩ ?vkdam10 ?rkdam10
  (try simp only [Act.put, tC, tD, tE])
  refine tA 10 ⟨some 20, .nilCheck (.tmp 19), 0, "parts.go:154", #[⟨9, .data⟩], none⟩ ?vkdam11 ?rkdam11
  (try simp only [Act.put, tC, tD, tE])
  refine tA 11 ⟨some 21, .fieldAddr 405 (.tmp 20) 1, 0, "parts.go:154", #[⟨10, .data⟩], none⟩ ?vkdam12 ?rkdam12
  (try simp only [Act.put, tC, tD, tE])
  refine tA 12 ⟨some 22, .fieldAddr 31 (.tmp 21) 1, 0, "parts.go:154", #[⟨11, .data⟩], none⟩ ?vkdam13 ?rkdam13
  (try simp only [Act.put, tC, tD, tE])
  refine tA 13 ⟨some 23, .load 23 (.tmp 22), 23, "parts.go:154", #[⟨12, .data⟩], none⟩ ?vkdam14 ?rkdam14
  (try simp only [Act.put, tC, tD, tE])
  refine tA 14 ⟨some 24, .move (.tmp 1), 24, "parts.go:154", #[], none⟩ ?vkdam15 ?rkdam15
  (try simp only [Act.put, tC, tD, tE])
  refine tA 15 ⟨some 25, .nilCheck (.tmp 24), 0, "parts.go:154", #[⟨14, .data⟩], none⟩ ?vkdam16 ?rkdam16
  (try simp only [Act.put, tC, tD, tE])
  refine tA 16 ⟨some 26, .fieldAddr 47 (.tmp 25) 1, 0, "parts.go:154", #[⟨15, .data⟩], none⟩ ?vkdam17 ?rkdam17
  (try simp only [Act.put, tC, tD, tE])
  refine tA 17 ⟨some 27, .load 40 (.tmp 26), 40, "parts.go:154", #[⟨16, .data⟩], none⟩ ?vkdam18 ?rkdam18
  (try simp only [Act.put, tC, tD, tE])
  refine wpAnyH_ready (rs := [18]) (by kernel_rfl) (by simp) ?_
  refine AllReadyH.cons (o := ⟨some 28, .call ⟨.value (.func 72), #[.tmp 27], #[40]⟩, 23, "parts.go:154", #[⟨17, .data⟩], none⟩) rfl (fun Kq hKq => ?_) AllReadyH.nil
  go_simp
  (refine HNW.out.mono ?_; rintro e' w1 ⟨rfl, rfl⟩)
  refine hKq.out _ _ ?_ (fun hHeld => ?_)
  · exact hHeld
  clear hKq Kq
  (try simp only [Act.put, tC, tD, tE])
  refine wpAnyH_ready (rs := [19]) (by kernel_rfl) (by simp) ?_
  refine AllReadyH.cons (o := ⟨some 29, .call ⟨.value (.func 304), #[.tmp 14, .tmp 18, .tmp 23, .tmp 28], #[41, 3, 23, 23]⟩, 403, "parts.go:154", #[⟨4, .data⟩, ⟨8, .data⟩, ⟨13, .data⟩, ⟨18, .data⟩, ⟨18, .chain⟩], none⟩) rfl (fun Kq hKq => ?_) AllReadyH.nil
  go_simp
  (refine HCL.out.mono ?_; rintro e' w2 ⟨rfl, X2, h2, hc2, hk2⟩; have H2 := Lib.hid (H.out.pgq h2); have HC2 := Lib.hid hc2; have HKB2 := Lib.hid hk2; clear hk2; clear h2 hc2)
  refine hKq.out _ _ ?_ (fun hHeld => ?_)
  · exact ⟨by rw [← HC2.out]; exact H2.out.pg.c.2.1, H2.out.pg.k1.trans (by rw [HKB2.out]), cell_row (H2.out.blk ks (HSR.out)) 0, cell_row (H2.out.blk ks (HSR.out)) 1, cell_row (H2.out.blk ks (HSR.out)) 2⟩
  clear hKq Kq
  (try simp only [Act.put, tC, tD, tE])
  refine tA 20 ⟨some 30, .nilCheck (.tmp 10), 0, "parts.go:154", #[⟨0, .data⟩, ⟨0, .phase⟩, ⟨1, .phase⟩, ⟨2, .phase⟩, ⟨3, .phase⟩, ⟨4, .phase⟩, ⟨5, .phase⟩, ⟨6, .phase⟩, ⟨7, .phase⟩, ⟨8, .phase⟩, ⟨9, .phase⟩, ⟨10, .phase⟩, ⟨11, .phase⟩, ⟨12, .phase⟩, ⟨13, .phase⟩, ⟨14, .phase⟩, ⟨15, .phase⟩, ⟨16, .phase⟩, ⟨17, .phase⟩, ⟨18, .phase⟩, ⟨19, .phase⟩], none⟩ ?vkdam19 ?rkdam19
  (try simp only [Act.put, tC, tD, tE])
  refine tA 21 ⟨some 31, .fieldAddr 405 (.tmp 30) 2, 0, "parts.go:154", #[⟨20, .data⟩, ⟨0, .phase⟩, ⟨1, .phase⟩, ⟨2, .phase⟩, ⟨3, .phase⟩, ⟨4, .phase⟩, ⟨5, .phase⟩, ⟨6, .phase⟩, ⟨7, .phase⟩, ⟨8, .phase⟩, ⟨9, .phase⟩, ⟨10, .phase⟩, ⟨11, .phase⟩, ⟨12, .phase⟩, ⟨13, .phase⟩, ⟨14, .phase⟩, ⟨15, .phase⟩, ⟨16, .phase⟩, ⟨17, .phase⟩, ⟨18, .phase⟩, ⟨19, .phase⟩], none⟩ ?vkdam20 ?rkdam20
  (try simp only [Act.put, tC, tD, tE])
  refine wpAnyH_ready (rs := [22]) (by kernel_rfl) (by simp) ?_
  refine AllReadyH.cons (o := ⟨none, .store 403 (.tmp 31) (.tmp 29), 0, "parts.go:154", #[⟨21, .data⟩, ⟨19, .data⟩, ⟨19, .chain⟩, ⟨0, .phase⟩, ⟨1, .phase⟩, ⟨2, .phase⟩, ⟨3, .phase⟩, ⟨4, .phase⟩, ⟨5, .phase⟩, ⟨6, .phase⟩, ⟨7, .phase⟩, ⟨8, .phase⟩, ⟨9, .phase⟩, ⟨10, .phase⟩, ⟨11, .phase⟩, ⟨12, .phase⟩, ⟨13, .phase⟩, ⟨14, .phase⟩, ⟨15, .phase⟩, ⟨16, .phase⟩, ⟨17, .phase⟩, ⟨18, .phase⟩, ⟨19, .phase⟩], none⟩) rfl (fun Kq hKq => ?_) AllReadyH.nil
  (have z0 : w2.cell? ⟨SB, 3, none⟩ = some (.int .u8 0) := cell_row (H2.out.blk ks HSR.out) 3; have zf : w2.frozen? ⟨SB, 3, none⟩ = false := froz_row (H2.out.blk ks HSR.out) 3; go_simp; have h3 := H2.out.put ks HSR.out 3 (.int .u8 (g : Int)) (cs' := #[.int .i64 (2 * (D.t : Int)), .bool D.on, .int .u64 (D.at' : Int), (.int .u8 (g : Int))]) rfl; have H3 := Lib.hid h3; clear h3 z0 zf; generalize w2.setCell ⟨SB, 3, none⟩ (.int .u8 (g : Int)) = w3 at *)
  refine hKq.out _ _ ?_ (fun hHeld => ?_)
  · exact ⟨by rw [← HC2.out]; exact H3.out.pg.c.2.1, H3.out.pg.k1.trans (by rw [HKB2.out]), cell_row (H3.out.blk ks (List.getElem?_set_self (List.getElem?_eq_some_iff.1 HSR.out).1)) 0, cell_row (H3.out.blk ks (List.getElem?_set_self (List.getElem?_eq_some_iff.1 HSR.out).1)) 1, cell_row (H3.out.blk ks (List.getElem?_set_self (List.getElem?_eq_some_iff.1 HSR.out).1)) 2⟩
  clear hKq Kq
  (try simp only [Act.put, tC, tD, tE])
  refine wpAnyH_done (by kernel_rfl) ?_ _
  clear hHeld y0 y1 y2
  have z1 : w3.cell? ⟨SB, 3, none⟩ = some (.int .u8 (g : Int)) := cell_row (H3.out.blk ks (List.getElem?_set_self (List.getElem?_eq_some_iff.1 HSR.out).1)) 3
  go_wp2_with fail
  go_ret
  exact ⟨rfl, X2, H3.out⟩
theorem sstep_p {SB ks : Nat} (h : Wq w0 w base WB M r j l X) (hs : l[ks]? = some (SB, slpO D.t D.on D.at' 0)) (hon : D.on = false) (ht : D.t < 64) (hpn : M.pn ≤ 1000000000) (g : Nat) (hg : g = if (M.pf (2 * D.t)).p then 1 else 0) :
    Calls Tryz.prog 303 #[Pw SB, Pw WB] w fun e' w' => e' = .returned (.bool (decide (g ≠ 0))) ∧ ∃ X', Wq w0 w' base WB (M.park (2 * D.t)) r j (l.set ks (SB, slpO D.t D.on D.at' g)) X' := by
  have y0 : w.cell? ⟨SB, 0, none⟩ = some (.int .i64 (2 * (D.t : Int))) := cell_row (h.blk ks hs) 0
  have y1 : w.cell? ⟨SB, 1, none⟩ = some (.bool D.on) := cell_row (h.blk ks hs) 1
  have y2 : w.cell? ⟨SB, 2, none⟩ = some (.int .u64 (D.at' : Int)) := cell_row (h.blk ks hs) 2
  have hp2 := h.pg.c.2.1
  have hk1 := h.pg.k1
  obtain ⟨pB, hpB⟩ : ∃ pB, X.pB = pB := ⟨_, rfl⟩
  obtain ⟨kB, hkB⟩ : ∃ kB, X.kB = kB := ⟨_, rfl⟩
  rw [hpB] at hp2
  rw [hkB] at hk1
  have h64 : 2 * (D.t : Int) = ((2 * D.t : Nat) : Int) := by omega
  have hpk := (h.new (Below.refl _ w).drew).pg.park (i := 2 * D.t) hpn (by omega)
  have hge : ((if (M.pf (2 * D.t)).p then 1 else 0 : Int)) = (g : Int) := by rw [hg]; split <;> rfl
  rw [hpB, ← h64, hge] at hpk
  have hcl := hpk
  clear hpk hge
  have HCL := Lib.hid hcl; have H := Lib.hid h; have HSR := Lib.hid hs
  have eg : ((g : Int) == 0) = decide (g = 0) := by rw [beqI]; exact decN0 g
  have eg2 : ((g : Int) != 0) = decide (g ≠ 0) := by show (!(_ == _)) = _; rw [eg]; by_cases e : g = 0 <;> simp [e]
  generalize decide (g ≠ 0) = bg at *
  have hon2 : some (Value.bool D.on) = some (.bool false) := by rw [hon]
  have y1' := y1.trans hon2
  clear h hs ht hpn hpB hkB hcl h64 hg eg
  go_enter Tryz.func303, Tryz.ntmps303
  go_upto_region 3 with fail
  clear y1' hon2
  refine wp_region_held_drew (S := fun w' => w'.cell? ⟨WB, 2, none⟩ = some (Pw pB) ∧ w'.cell? ⟨SB, 0, none⟩ = some (.int .i64 (2 * (D.t : Int))) ∧ w'.cell? ⟨SB, 1, none⟩ = some (.bool D.on) ∧ w'.cell? ⟨SB, 2, none⟩ = some (.int .u64 (D.at' : Int))) (by kernel_rfl) ?_ (fun hHeld => ?_)
  · exact ⟨hp2, y0, y1, y2⟩
  refine tA 0 ⟨some 32, .move (.tmp 0), 215, "parts.go:156", #[], none⟩ ?vkdbm1 ?rkdbm1
  (try simp only [Act.put, tC, tD, tE])
  refine tA 1 ⟨some 33, .move (.tmp 1), 24, "parts.go:156", #[], none⟩ ?vkdbm2 ?rkdbm2
  (try simp only [Act.put, tC, tD, tE])
  refine tA 2 ⟨some 34, .nilCheck (.tmp 33), 0, "parts.go:156", #[⟨1, .data⟩], none⟩ ?vkdbm3 ?rkdbm3
  (try simp only [Act.put, tC, tD, tE])
  refine tA 3 ⟨some 35, .fieldAddr 47 (.tmp 34) 2, 0, "parts.go:156", #[⟨2, .data⟩], none⟩ ?vkdbm4 ?rkdbm4
  (try simp only [Act.put, tC, tD, tE])
  refine tA 4 ⟨some 36, .load 41 (.tmp 35), 41, "parts.go:156", #[⟨3, .data⟩], none⟩ ?vkdbm5 ?rkdbm5
  (try simp only [Act.put, tC, tD, tE])
  refine tA 5 ⟨some 37, .move (.tmp 0), 215, "parts.go:156", #[], none⟩ ?vkdbm6 ?rkdbm6
  (try simp only [Act.put, tC, tD, tE])
  refine tA 6 ⟨some 38, .nilCheck (.tmp 37), 0, "parts.go:156", #[⟨5, .data⟩], none⟩ ?vkdbm7 ?rkdbm7
  (try simp only [Act.put, tC, tD, tE])
  refine tA 7 ⟨some 39, .fieldAddr 405 (.tmp 38) 0, 0, "parts.go:156", #[⟨6, .data⟩], none⟩ ?vkdbm8 ?rkdbm8
  (try simp only [Act.put, tC, tD, tE])
  refine tA 8 ⟨some 40, .load 3 (.tmp 39), 3, "parts.go:156", #[⟨7, .data⟩], none⟩ ?vkdbm9 ?rkdbm9
  (try simp only [Act.put, tC, tD, tE])
  refine wpAnyH_ready (rs := [9]) (by kernel_rfl) (by simp) ?_
  refine AllReadyH.cons (o := ⟨some 41, .call ⟨.value (.func 305), #[.tmp 36, .tmp 40], #[41, 3]⟩, 403, "parts.go:156", #[⟨4, .data⟩, ⟨8, .data⟩], none⟩) rfl (fun Kq hKq => ?_) AllReadyH.nil
  go_simp
  (refine HCL.out.mono ?_; rintro e' w2 ⟨rfl, X2, h2, hc2⟩; have H2 := Lib.hid (H.out.pgq h2); have HC2 := Lib.hid hc2; clear h2 hc2)
  refine hKq.out _ _ ?_ (fun hHeld => ?_)
  · exact ⟨by rw [← HC2.out]; exact H2.out.pg.c.2.1, cell_row (H2.out.blk ks (HSR.out)) 0, cell_row (H2.out.blk ks (HSR.out)) 1, cell_row (H2.out.blk ks (HSR.out)) 2⟩
  clear hKq Kq
  (try simp only [Act.put, tC, tD, tE])
  refine tA 10 ⟨some 42, .nilCheck (.tmp 32), 0, "parts.go:156", #[⟨0, .data⟩, ⟨0, .phase⟩, ⟨1, .phase⟩, ⟨2, .phase⟩, ⟨3, .phase⟩, ⟨4, .phase⟩, ⟨5, .phase⟩, ⟨6, .phase⟩, ⟨7, .phase⟩, ⟨8, .phase⟩, ⟨9, .phase⟩], none⟩ ?vkdbm10 ?rkdbm10
  (try simp only [Act.put, tC, tD, tE])
  refine tA 11 ⟨some 43, .fieldAddr 405 (.tmp 42) 2, 0, "parts.go:156", #[⟨10, .data⟩, ⟨0, .phase⟩, ⟨1, .phase⟩, ⟨2, .phase⟩, ⟨3, .phase⟩, ⟨4, .phase⟩, ⟨5, .phase⟩, ⟨6, .phase⟩, ⟨7, .phase⟩, ⟨8, .phase⟩, ⟨9, .phase⟩], none⟩ ?vkdbm11 ?rkdbm11
  (try simp only [Act.put, tC, tD, tE])
  refine wpAnyH_ready (rs := [12]) (by kernel_rfl) (by simp) ?_
  refine AllReadyH.cons (o := ⟨none, .store 403 (.tmp 43) (.tmp 41), 0, "parts.go:156", #[⟨11, .data⟩, ⟨9, .data⟩, ⟨9, .chain⟩, ⟨0, .phase⟩, ⟨1, .phase⟩, ⟨2, .phase⟩, ⟨3, .phase⟩, ⟨4, .phase⟩, ⟨5, .phase⟩, ⟨6, .phase⟩, ⟨7, .phase⟩, ⟨8, .phase⟩, ⟨9, .phase⟩], none⟩) rfl (fun Kq hKq => ?_) AllReadyH.nil
  (have z0 : w2.cell? ⟨SB, 3, none⟩ = some (.int .u8 0) := cell_row (H2.out.blk ks HSR.out) 3; have zf : w2.frozen? ⟨SB, 3, none⟩ = false := froz_row (H2.out.blk ks HSR.out) 3; go_simp; have h3 := H2.out.put ks HSR.out 3 (.int .u8 (g : Int)) (cs' := #[.int .i64 (2 * (D.t : Int)), .bool D.on, .int .u64 (D.at' : Int), (.int .u8 (g : Int))]) rfl; have H3 := Lib.hid h3; clear h3 z0 zf; generalize w2.setCell ⟨SB, 3, none⟩ (.int .u8 (g : Int)) = w3 at *)
  refine hKq.out _ _ ?_ (fun hHeld => ?_)
  · exact ⟨by rw [← HC2.out]; exact H3.out.pg.c.2.1, cell_row (H3.out.blk ks (List.getElem?_set_self (List.getElem?_eq_some_iff.1 HSR.out).1)) 0, cell_row (H3.out.blk ks (List.getElem?_set_self (List.getElem?_eq_some_iff.1 HSR.out).1)) 1, cell_row (H3.out.blk ks (List.getElem?_set_self (List.getElem?_eq_some_iff.1 HSR.out).1)) 2⟩
  clear hKq Kq
  (try simp only [Act.put, tC, tD, tE])
  refine wpAnyH_done (by kernel_rfl) ?_ _
  clear hHeld y0 y1 y2
  have z1 : w3.cell? ⟨SB, 3, none⟩ = some (.int .u8 (g : Int)) := cell_row (H3.out.blk ks (List.getElem?_set_self (List.getElem?_eq_some_iff.1 HSR.out).1)) 3
  go_wp2_with fail
  go_ret
  exact ⟨rfl, X2, H3.out⟩
end
end Go.Proofs.YtieiiabbeglmfaaGreatDoor.S18
