/- Texts of this seat, one behind the other. -/
import Derived.Test.YtjppncglkijbjaaGreatDoorB39
set_option linter.unusedVariables false
set_option linter.unusedSimpArgs false
set_option linter.unusedVariables false
set_option linter.unusedSimpArgs false
namespace Go.Proofs.YtjppncglkijbjaaGreatDoor.S18
open Go.Proofs.YtjppncglkijbjaaGreatDoor Go.Proofs.YtjppncglkijbjaaGreatDoor.S11 Go.Proofs.YtjppncglkijbjaaGreatDoor.S12 Go.Proofs.YtjppncglkijbjaaGreatDoor.S13 Go.Proofs.YtjppncglkijbjaaGreatDoor.S14 Go.Proofs.YtjppncglkijbjaaGreatDoor.S15 Go.Proofs.YtjppncglkijbjaaGreatDoor.S16
open Go.RowKit

section
variable {w0 w w' : World} {base WB : Nat} {M : Sd} {r : List Part} {j e u B : Nat} {l l' : Rows} {X : Wm} {D : Pd} {pb pi : Int} {p b : Value} {o : Nat}
theorem _root_.Go.Proofs.YtjppncglkijbjaaGreatDoor.S12.Pg.permk (h : Pg w0 w base WB M r X) {k p : Int} {f : Nat → S4.Pk} (l : S4.PSets w w' X.pB f ((X.pn : Int) + 1) k p) : ∃ X', Pg w0 w' base WB (M.call k p f) r X' ∧ X'.pB = X.pB ∧ X'.kB = X.kB := by
  obtain ⟨hp, hb⟩ := t_permits (i := 2) h.ps rfl l
  refine ⟨{ X with pf := f, pn := X.pn + 1, pk := k, pp := p }, ⟨hp, h.wB, ?_, h.bl.trans hb⟩, rfl, rfl⟩
  rw [← h.xm]; rfl
theorem _root_.Go.Proofs.YtjppncglkijbjaaGreatDoor.S12.Pg.untilk (h : Pg w0 w base WB M r X) (hn : M.pn ≤ 1000000000) {i : Nat} (hi : i < 128) (at_ : Nat) :
    Calls Tryz.prog 281 #[Pw X.pB, .int .i64 (i : Int), .int .u64 (at_ : Int), .int .u64 (M.T : Int)] w fun e w' => e = .returned (.int .u8 (S4.untilO (M.pf i) at_ M.T : Nat)) ∧ ∃ X', Pg w0 w' base WB (M.until i at_) r X' ∧ X'.pB = X.pB ∧ X'.kB = X.kB := by
  have e2 : X.pn = M.pn := congrArg Sd.pn h.xm
  refine (S4.until_b h.pw.permits (by omega) hi at_ M.T _ _ rfl rfl).mono ?_
  rintro e w' ⟨rfl, hl⟩
  rw [show X.pf = M.pf from congrArg Sd.pf h.xm] at hl ⊢
  exact ⟨rfl, h.permk hl⟩
set_option maxRecDepth 100000 in
set_option maxHeartbeats 4000000 in
theorem ask1_n {XB LB KB QB kx kl kk kq ky : Nat} (h : Wq w0 w base WB M r j l X) (hb : l[0]? = some (B, pkO D pb pi p b o)) (hx : l[kx]? = some (XB, xO B)) (hl : l[kl]? = some (LB, .cells #[.bool false] 4 (0, 0))) (hne : kl ≠ 0 ∧ kl ≠ kx) (ht : D.t < 64) (hpn : M.pn ≤ 900000000) (hlt : (M.pf (2 * D.t)).p = true) :
    Calls Tryz.prog 244 #[Pw WB, Pw XB, Pw LB, Pw KB, Pw QB] w fun e' w' => e' = .returned (.tuple #[]) ∧ ∃ X', Wq w0 w' base WB (M.late (2 * D.t)) r j l X' := by
  have y0 : w.cell? ⟨XB, 0, none⟩ = some (Pw B) := cell_row (h.blk kx hx) 0
  have c0 : w.cell? ⟨B, 0, none⟩ = some (.int .i64 (D.t : Int)) := cell_row (h.blk 0 hb) 0
  have hp2 := h.pg.c.2.1
  obtain ⟨pB, hpB⟩ : ∃ pB, X.pB = pB := ⟨_, rfl⟩
  rw [hpB] at hp2
  have hlat := (h.new (Below.refl _ w).drew).pg.late (i := 2 * D.t) (by omega) (by omega)
  rw [hpB, hlt] at hlat
  obtain ⟨bl, hbl⟩ : ∃ bl, bl = !true := ⟨_, rfl⟩
  rw [← hbl] at hlat
  have HL := Lib.hid (lotc (W := w.drew) c0 ht); have HLT := Lib.hid hlat
  have H := Lib.hid h; have HBR := Lib.hid hb; have HXR := Lib.hid hx; have HLR := Lib.hid hl; have HNE := Lib.hid hne; have HBL := Lib.hid hbl
  clear h hb hx hl hne ht hpn hlt hpB hlat hbl
  go_enter Tryz.func244, Tryz.ntmps244
  refine wp_seq ?_
  refine wp_region_held_drew (S := fun w' => w'.cell? ⟨WB, 2, none⟩ = some (Pw pB) ∧ w'.cell? ⟨XB, 0, none⟩ = some (Pw B) ∧ w'.cell? ⟨B, 0, none⟩ = some (.int .i64 (D.t : Int))) (by kernel_rfl) ?_ (fun hHeld => ?_)
  · exact ⟨hp2, y0, c0⟩
  refine wpAnyH_take (i := 0) (oi := ({ dst := some 6, op := Op.move (Operand.tmp 0), type := 24, pos := "parts.go:100", after := #[], guard := none } : Oper)) (v := ?vkam1) rfl (by kernel_rfl) (by kernel_rfl) (by kernel_rfl) (fun _ _ _ h => h) (Or.inl ⟨by rfl, fun w hSw => ?hykam1⟩) (by assumption) ?rkam1
  case hykam1 => (try dsimp only at hSw); go_simp; (try with_reducible rfl)
  (try simp only [Act.put, List.setIfInBounds_toArray, List.set_cons_zero, List.set_cons_succ])
  refine wpAnyH_take (i := 1) (oi := ({ dst := some 7, op := Op.nilCheck (Operand.tmp 6), type := 0, pos := "parts.go:100", after := #[{ on := 0, ground := Ground.data }], guard := none } : Oper)) (v := ?vkam2) rfl (by kernel_rfl) (by kernel_rfl) (by kernel_rfl) (fun _ _ _ h => h) (Or.inl ⟨by rfl, fun w hSw => ?hykam2⟩) (by assumption) ?rkam2
  case hykam2 => (try dsimp only at hSw); go_simp; (try with_reducible rfl)
  (try simp only [Act.put, List.setIfInBounds_toArray, List.set_cons_zero, List.set_cons_succ])
  refine wpAnyH_take (i := 2) (oi := ({ dst := some 8, op := Op.fieldAddr 47 (Operand.tmp 7) 2, type := 0, pos := "parts.go:100", after := #[{ on := 1, ground := Ground.data }], guard := none } : Oper)) (v := ?vkam3) rfl (by kernel_rfl) (by kernel_rfl) (by kernel_rfl) (fun _ _ _ h => h) (Or.inl ⟨by rfl, fun w hSw => ?hykam3⟩) (by assumption) ?rkam3
  case hykam3 => (try dsimp only at hSw); go_simp; (try with_reducible rfl)
  (try simp only [Act.put, List.setIfInBounds_toArray, List.set_cons_zero, List.set_cons_succ])
  refine wpAnyH_take (i := 3) (oi := ({ dst := some 9, op := Op.load 41 (Operand.tmp 8), type := 41, pos := "parts.go:100", after := #[{ on := 2, ground := Ground.data }], guard := none } : Oper)) (v := ?vkam4) rfl (by kernel_rfl) (by kernel_rfl) (by kernel_rfl) (fun _ _ _ h => h) (Or.inl ⟨by rfl, fun w hSw => ?hykam4⟩) (by assumption) ?rkam4
  case hykam4 => (try dsimp only at hSw); go_simp; (try with_reducible rfl)
  (try simp only [Act.put, List.setIfInBounds_toArray, List.set_cons_zero, List.set_cons_succ])
  refine wpAnyH_take (i := 4) (oi := ({ dst := some 10, op := Op.load 32 (Operand.tmp 1), type := 32, pos := "parts.go:100", after := #[], guard := none } : Oper)) (v := ?vkam5) rfl (by kernel_rfl) (by kernel_rfl) (by kernel_rfl) (fun _ _ _ h => h) (Or.inl ⟨by rfl, fun w hSw => ?hykam5⟩) (by assumption) ?rkam5
  case hykam5 => (try dsimp only at hSw); go_simp; (try with_reducible rfl)
  (try simp only [Act.put, List.setIfInBounds_toArray, List.set_cons_zero, List.set_cons_succ])
  refine wpAnyH_ready (rs := [5]) (by kernel_rfl) (by simp) ?_
  refine AllReadyH.cons (o := ({ dst := some 11, op := Op.call { callee := Callee.value (Operand.func 183), args := #[Operand.tmp 10], argTypes := #[32] }, type := 3, pos := "parts.go:100", after := #[{ on := 4, ground := Ground.data }], guard := none } : Oper)) rfl (fun Kq hKq => ?_) AllReadyH.nil
  go_simp
  (refine (HL.out).mono ?_; rintro e' w1 ⟨rfl, rfl⟩)
  refine hKq.out _ _ ?_ (fun hHeld => ?_)
  · exact hHeld
  clear hKq Kq
  (try simp only [Act.put, List.setIfInBounds_toArray, List.set_cons_zero, List.set_cons_succ])
  refine wpAnyH_ready (rs := [6]) (by kernel_rfl) (by simp) ?_
  refine AllReadyH.cons (o := ({ dst := some 12, op := Op.call { callee := Callee.value (Operand.func 245), args := #[Operand.tmp 9, Operand.tmp 11], argTypes := #[41, 3] }, type := 4, pos := "parts.go:100", after := #[{ on := 3, ground := Ground.data }, { on := 5, ground := Ground.data }, { on := 5, ground := Ground.chain }], guard := none } : Oper)) rfl (fun Kq hKq => ?_) AllReadyH.nil
  go_simp
  (refine HLT.out.mono ?_; rintro e' w2 ⟨rfl, X2, h2, hpb2⟩; have H2 := Lib.hid (H.out.pgq h2); have HP2 := Lib.hid hpb2; clear h2 hpb2)
  refine hKq.out _ _ ?_ (fun hHeld => ?_)
  · exact ⟨by rw [← HP2.out]; exact H2.out.pg.c.2.1, cell_row (H2.out.blk kx (HXR.out)) 0, cell_row (H2.out.blk 0 (HBR.out)) 0⟩
  clear hKq Kq
  (try simp only [Act.put, List.setIfInBounds_toArray, List.set_cons_zero, List.set_cons_succ])
  refine wpAnyH_ready (rs := [7]) (by kernel_rfl) (by simp) ?_
  refine AllReadyH.cons (o := ({ dst := none, op := Op.store 4 (Operand.tmp 2) (Operand.tmp 12), type := 0, pos := "parts.go:100", after := #[{ on := 6, ground := Ground.data }, { on := 6, ground := Ground.chain }, { on := 0, ground := Ground.phase }, { on := 1, ground := Ground.phase }, { on := 2, ground := Ground.phase }, { on := 3, ground := Ground.phase }, { on := 4, ground := Ground.phase }, { on := 5, ground := Ground.phase }, { on := 6, ground := Ground.phase }], guard := none } : Oper)) rfl (fun Kq hKq => ?_) AllReadyH.nil
  (have z0 : w2.cell? ⟨LB, 0, none⟩ = some (.bool false) := cell_row (H2.out.blk kl HLR.out) 0; have zf : w2.frozen? ⟨LB, 0, none⟩ = false := froz_row (H2.out.blk kl HLR.out) 0; go_simp; have h3 := H2.out.put kl HLR.out 0 (.bool bl) (cs' := #[.bool bl]) rfl; have H3 := Lib.hid h3; clear h3 z0 zf; generalize w2.setCell ⟨LB, 0, none⟩ (.bool bl) = w3 at *)
  refine hKq.out _ _ ?_ (fun hHeld => ?_)
  · exact ⟨by rw [← HP2.out]; exact H3.out.pg.c.2.1, cell_row (H3.out.blk kx ((List.getElem?_set_ne HNE.out.2).trans HXR.out)) 0, cell_row (H3.out.blk 0 ((List.getElem?_set_ne HNE.out.1).trans HBR.out)) 0⟩
  clear hKq Kq
  (try simp only [Act.put, List.setIfInBounds_toArray, List.set_cons_zero, List.set_cons_succ])
  refine wpAnyH_done (by kernel_rfl) ?_ _
  clear hHeld y0 c0 hp2
  have hbl : bl = false := HBL.out
  subst hbl
  have e3 : l.set kl (LB, .cells #[.bool false] 4 (0, 0)) = l := by
    obtain ⟨q1, q2⟩ := List.getElem?_eq_some_iff.1 HLR.out
    rw [← q2]; exact List.set_getElem_self q1
  rw [e3] at H3
  have z1 : w3.cell? ⟨LB, 0, none⟩ = some (.bool false) := cell_row (H3.out.blk kl HLR.out) 0
  go_wp2_with fail
  go_end0
  exact ⟨rfl, X2, H3.out⟩
set_option maxRecDepth 100000 in
set_option maxHeartbeats 4000000 in
theorem ask1_y {XB LB KB QB kx kl kk kq ky pi : Nat} (h : Wq w0 w base WB M r j l X) (hb : l[0]? = some (B, pkO D pb (pi : Int) p b o)) (hx : l[kx]? = some (XB, xO B)) (hl : l[kl]? = some (LB, .cells #[.bool false] 4 (0, 0))) (hk : l[kk]? = some (KB, .cells #[.int .u32 (ky : Int)] 35 (0, 0))) (hq : l[kq]? = some (QB, .cells #[.bool false] 4 (0, 0))) (hne : kl ≠ 0 ∧ kl ≠ kx) (hne2 : kl ≠ kk ∧ kl ≠ kq) (ht : D.t < 64) (hlt : (M.pf (2 * D.t)).p = false)
    (hn : M.n ≤ 900000000) (hpn : M.pn ≤ 890000000) (hT : Tab w0) (hT1 : 0 < base) (hpb : S10.InI pb) (hpi : pi < (M.m pb).length) (hql : (qAt M pb pi).length ≤ 900) (hnl : M.nD.length ≤ 90000) :
    Calls Tryz.prog 244 #[Pw WB, Pw XB, Pw LB, Pw KB, Pw QB] w fun e' w' => e' = .returned (.tuple #[]) ∧ ∃ X', Wq w0 w' base WB (goneM (M.late (2 * D.t)) D.t pb pi ky) r j ((l.set kl (LB, .cells #[.bool true] 4 (0, 0))).set kq (QB, .cells #[.bool (goneB (M.late (2 * D.t)) D.t pb pi ky)] 4 (0, 0))) X' := by
  have y0 : w.cell? ⟨XB, 0, none⟩ = some (Pw B) := cell_row (h.blk kx hx) 0
  have c0 : w.cell? ⟨B, 0, none⟩ = some (.int .i64 (D.t : Int)) := cell_row (h.blk 0 hb) 0
  have hp2 := h.pg.c.2.1
  obtain ⟨pB, hpB⟩ : ∃ pB, X.pB = pB := ⟨_, rfl⟩
  rw [hpB] at hp2
  have hlat := (h.new (Below.refl _ w).drew).pg.late (i := 2 * D.t) (by omega) (by omega)
  rw [hpB, hlt] at hlat
  obtain ⟨bl, hbl⟩ : ∃ bl, bl = !false := ⟨_, rfl⟩
  rw [← hbl] at hlat
  have hg : ∀ W X', Wq w0 W base WB (M.late (2 * D.t)) r j (l.set kl (LB, .cells #[.bool true] 4 (0, 0))) X' → Calls Tryz.prog 246 #[Pw B, Pw WB, .int .u32 (ky : Int)] W fun e' w' => e' = .returned (.bool (goneB (M.late (2 * D.t)) D.t pb pi ky)) ∧ ∃ X', Wq w0 w' base WB (goneM (M.late (2 * D.t)) D.t pb pi ky) r j (l.set kl (LB, .cells #[.bool true] 4 (0, 0))) X' := fun W X' hW =>
    gone_ hW ((List.getElem?_set_ne hne.1).trans hb) ht hn (by show M.pn + 1 ≤ _; omega) hT hT1 hpb hpi hql hnl
  have HG := Lib.hid hg
  have HL := Lib.hid (lotc (W := w.drew) c0 ht); have HLT := Lib.hid hlat
  have H := Lib.hid h; have HBR := Lib.hid hb; have HXR := Lib.hid hx; have HLR := Lib.hid hl; have HNE := Lib.hid hne; have HBL := Lib.hid hbl; have HKR := Lib.hid hk; have HQR := Lib.hid hq; have HNE2 := Lib.hid hne2
  generalize goneB (M.late (2 * D.t)) D.t pb pi ky = gb at *
  generalize goneM (M.late (2 * D.t)) D.t pb pi ky = MG at *
  clear h hb hx hl hne ht hpn hlt hpB hlat hbl hk hq hne2 hn hT hT1 hpb hpi hql hnl hg
  go_enter Tryz.func244, Tryz.ntmps244
  refine wp_seq ?_
  refine wp_region_held_drew (S := fun w' => w'.cell? ⟨WB, 2, none⟩ = some (Pw pB) ∧ w'.cell? ⟨XB, 0, none⟩ = some (Pw B) ∧ w'.cell? ⟨B, 0, none⟩ = some (.int .i64 (D.t : Int))) (by kernel_rfl) ?_ (fun hHeld => ?_)
  · exact ⟨hp2, y0, c0⟩
  refine wpAnyH_take (i := 0) (oi := ({ dst := some 6, op := Op.move (Operand.tmp 0), type := 24, pos := "parts.go:100", after := #[], guard := none } : Oper)) (v := ?vkam1) rfl (by kernel_rfl) (by kernel_rfl) (by kernel_rfl) (fun _ _ _ h => h) (Or.inl ⟨by rfl, fun w hSw => ?hykam1⟩) (by assumption) ?rkam1
  case hykam1 => (try dsimp only at hSw); go_simp; (try with_reducible rfl)
  (try simp only [Act.put, List.setIfInBounds_toArray, List.set_cons_zero, List.set_cons_succ])
  refine wpAnyH_take (i := 1) (oi := ({ dst := some 7, op := Op.nilCheck (Operand.tmp 6), type := 0, pos := "parts.go:100", after := #[{ on := 0, ground := Ground.data }], guard := none } : Oper)) (v := ?vkam2) rfl (by kernel_rfl) (by kernel_rfl) (by kernel_rfl) (fun _ _ _ h => h) (Or.inl ⟨by rfl, fun w hSw => ?hykam2⟩) (by assumption) ?rkam2
  case hykam2 => (try dsimp only at hSw); go_simp; (try with_reducible rfl)
  (try simp only [Act.put, List.setIfInBounds_toArray, List.set_cons_zero, List.set_cons_succ])
  refine wpAnyH_take (i := 2) (oi := ({ dst := some 8, op := Op.fieldAddr 47 (Operand.tmp 7) 2, type := 0, pos := "parts.go:100", after := #[{ on := 1, ground := Ground.data }], guard := none } : Oper)) (v := ?vkam3) rfl (by kernel_rfl) (by kernel_rfl) (by kernel_rfl) (fun _ _ _ h => h) (Or.inl ⟨by rfl, fun w hSw => ?hykam3⟩) (by assumption) ?rkam3
  case hykam3 => (try dsimp only at hSw); go_simp; (try with_reducible rfl)
  (try simp only [Act.put, List.setIfInBounds_toArray, List.set_cons_zero, List.set_cons_succ])
  refine wpAnyH_take (i := 3) (oi := ({ dst := some 9, op := Op.load 41 (Operand.tmp 8), type := 41, pos := "parts.go:100", after := #[{ on := 2, ground := Ground.data }], guard := none } : Oper)) (v := ?vkam4) rfl (by kernel_rfl) (by kernel_rfl) (by kernel_rfl) (fun _ _ _ h => h) (Or.inl ⟨by rfl, fun w hSw => ?hykam4⟩) (by assumption) ?rkam4
  case hykam4 => (try dsimp only at hSw); go_simp; (try with_reducible rfl)
  (try simp only [Act.put, List.setIfInBounds_toArray, List.set_cons_zero, List.set_cons_succ])
  refine wpAnyH_take (i := 4) (oi := ({ dst := some 10, op := Op.load 32 (Operand.tmp 1), type := 32, pos := "parts.go:100", after := #[], guard := none } : Oper)) (v := ?vkam5) rfl (by kernel_rfl) (by kernel_rfl) (by kernel_rfl) (fun _ _ _ h => h) (Or.inl ⟨by rfl, fun w hSw => ?hykam5⟩) (by assumption) ?rkam5
  case hykam5 => (try dsimp only at hSw); go_simp; (try with_reducible rfl)
  (try simp only [Act.put, List.setIfInBounds_toArray, List.set_cons_zero, List.set_cons_succ])
  refine wpAnyH_ready (rs := [5]) (by kernel_rfl) (by simp) ?_
  refine AllReadyH.cons (o := ({ dst := some 11, op := Op.call { callee := Callee.value (Operand.func 183), args := #[Operand.tmp 10], argTypes := #[32] }, type := 3, pos := "parts.go:100", after := #[{ on := 4, ground := Ground.data }], guard := none } : Oper)) rfl (fun Kq hKq => ?_) AllReadyH.nil
  go_simp
  (refine (HL.out).mono ?_; rintro e' w1 ⟨rfl, rfl⟩)
  refine hKq.out _ _ ?_ (fun hHeld => ?_)
  · exact hHeld
  clear hKq Kq
  (try simp only [Act.put, List.setIfInBounds_toArray, List.set_cons_zero, List.set_cons_succ])
  refine wpAnyH_ready (rs := [6]) (by kernel_rfl) (by simp) ?_
  refine AllReadyH.cons (o := ({ dst := some 12, op := Op.call { callee := Callee.value (Operand.func 245), args := #[Operand.tmp 9, Operand.tmp 11], argTypes := #[41, 3] }, type := 4, pos := "parts.go:100", after := #[{ on := 3, ground := Ground.data }, { on := 5, ground := Ground.data }, { on := 5, ground := Ground.chain }], guard := none } : Oper)) rfl (fun Kq hKq => ?_) AllReadyH.nil
  go_simp
  (refine HLT.out.mono ?_; rintro e' w2 ⟨rfl, X2, h2, hpb2⟩; have H2 := Lib.hid (H.out.pgq h2); have HP2 := Lib.hid hpb2; clear h2 hpb2)
  refine hKq.out _ _ ?_ (fun hHeld => ?_)
  · exact ⟨by rw [← HP2.out]; exact H2.out.pg.c.2.1, cell_row (H2.out.blk kx (HXR.out)) 0, cell_row (H2.out.blk 0 (HBR.out)) 0⟩
  clear hKq Kq
  (try simp only [Act.put, List.setIfInBounds_toArray, List.set_cons_zero, List.set_cons_succ])
  refine wpAnyH_ready (rs := [7]) (by kernel_rfl) (by simp) ?_
  refine AllReadyH.cons (o := ({ dst := none, op := Op.store 4 (Operand.tmp 2) (Operand.tmp 12), type := 0, pos := "parts.go:100", after := #[{ on := 6, ground := Ground.data }, { on := 6, ground := Ground.chain }, { on := 0, ground := Ground.phase }, { on := 1, ground := Ground.phase }, { on := 2, ground := Ground.phase }, { on := 3, ground := Ground.phase }, { on := 4, ground := Ground.phase }, { on := 5, ground := Ground.phase }, { on := 6, ground := Ground.phase }], guard := none } : Oper)) rfl (fun Kq hKq => ?_) AllReadyH.nil
  (have z0 : w2.cell? ⟨LB, 0, none⟩ = some (.bool false) := cell_row (H2.out.blk kl HLR.out) 0; have zf : w2.frozen? ⟨LB, 0, none⟩ = false := froz_row (H2.out.blk kl HLR.out) 0; go_simp; have h3 := H2.out.put kl HLR.out 0 (.bool bl) (cs' := #[.bool bl]) rfl; have H3 := Lib.hid h3; clear h3 z0 zf; generalize w2.setCell ⟨LB, 0, none⟩ (.bool bl) = w3 at *)
  refine hKq.out _ _ ?_ (fun hHeld => ?_)
  · exact ⟨by rw [← HP2.out]; exact H3.out.pg.c.2.1, cell_row (H3.out.blk kx ((List.getElem?_set_ne HNE.out.2).trans HXR.out)) 0, cell_row (H3.out.blk 0 ((List.getElem?_set_ne HNE.out.1).trans HBR.out)) 0⟩
  clear hKq Kq
  (try simp only [Act.put, List.setIfInBounds_toArray, List.set_cons_zero, List.set_cons_succ])
  refine wpAnyH_done (by kernel_rfl) ?_ _
  clear hHeld y0 c0 hp2
  have hbl : bl = true := HBL.out
  subst hbl
  have z1 : w3.cell? ⟨LB, 0, none⟩ = some (.bool true) := cell_row (H3.out.blk kl (List.getElem?_set_self (List.getElem?_eq_some_iff.1 HLR.out).1)) 0
  have z2 : w3.cell? ⟨XB, 0, none⟩ = some (Pw B) := cell_row (H3.out.blk kx ((List.getElem?_set_ne HNE.out.2).trans HXR.out)) 0
  have z3 : w3.cell? ⟨KB, 0, none⟩ = some (.int .u32 (ky : Int)) := cell_row (H3.out.blk kk ((List.getElem?_set_ne HNE2.out.1).trans HKR.out)) 0
  have HGG := Lib.hid (HG.out _ _ H3.out)
  go_wp2_with (go_at_call 246; refine HGG.out.mono ?_; rintro e' w4 ⟨rfl, X4, h4⟩; have z4 : w4.cell? ⟨QB, 0, none⟩ = some (.bool false) := cell_row (h4.blk kq ((List.getElem?_set_ne HNE2.out.2).trans HQR.out)) 0; have z5 : w4.frozen? ⟨QB, 0, none⟩ = false := froz_row (h4.blk kq ((List.getElem?_set_ne HNE2.out.2).trans HQR.out)) 0; have H4 := Lib.hid h4; clear h4)
  go_end0
  exact ⟨rfl, X4, H4.out.put kq ((List.getElem?_set_ne HNE2.out.2).trans HQR.out) 0 (.bool gb) (cs' := #[.bool gb]) rfl⟩
set_option maxRecDepth 100000 in
set_option maxHeartbeats 4000000 in
theorem cval1_ {LB CB LX kl kx kc n0 ca cl cn cc : Nat} {ov : Bool} (h : Wq w0 w base WB M r j l X) (hl : l[kl]? = some (LB, lookO ⟨ca, cl, cn, cc⟩ CB LX ov n0)) (hx : l[kx]? = some (LX, .cells #[Pw LB] 420 (0, 0))) (hc : l[kc]? = some (CB, ckO ⟨ca, cl, cn, cc⟩)) (hne : kl ≠ kx ∧ kl ≠ kc) (ha : ca < 4294967296) (hn : M.n ≤ 1000000000) :
    Calls Tryz.prog 289 #[Pw WB, Pw CB, Pw LX] w fun e' w' => e' = .returned (.tuple #[]) ∧ ∃ X', Wq w0 w' base WB (M.acc 1 ca (S2.look M.L ca)) r j (l.set kl (LB, lookO ⟨ca, cl, cn, cc⟩ CB LX ov (S2.look M.L ca))) X' := by
  have y0 : w.cell? ⟨LX, 0, none⟩ = some (Pw LB) := cell_row (h.blk kx hx) 0
  have y1 : w.cell? ⟨CB, 0, none⟩ = some (.int .u32 (ca : Int)) := cell_row (h.blk kc hc) 0
  have hc0 := h.pg.c.1
  obtain ⟨cb, hcb⟩ : ∃ cb, X.cB = cb := ⟨_, rfl⟩
  rw [hcb] at hc0
  have hld := (h.new (Below.refl _ w).drew).pg.load (a := ca) ha hn
  rw [hcb] at hld
  obtain ⟨u0, hu0⟩ : ∃ u0, u0 = S2.look M.L ca := ⟨_, rfl⟩
  rw [← hu0] at hld ⊢
  have HLD := Lib.hid hld; have H := Lib.hid h; have HXR := Lib.hid hx; have HLR := Lib.hid hl; have HCR := Lib.hid hc; have HNE := Lib.hid hne
  clear h hl hx hc hne ha hn hcb hld hu0
  go_enter Tryz.func289, Tryz.ntmps289
  refine wp_region_held_drew (S := fun w' => w'.cell? ⟨WB, 0, none⟩ = some (Pw cb) ∧ w'.cell? ⟨LX, 0, none⟩ = some (Pw LB) ∧ w'.cell? ⟨CB, 0, none⟩ = some (.int .u32 (ca : Int))) (by kernel_rfl) ?_ (fun hHeld => ?_)
  · exact ⟨hc0, y0, y1⟩
  refine wpAnyH_take (i := 0) (oi := ({ dst := some 4, op := Op.load 420 (Operand.tmp 2), type := 420, pos := "hooks.go:65", after := #[], guard := none } : Oper)) (v := ?vkbm1) rfl (by kernel_rfl) (by kernel_rfl) (by kernel_rfl) (fun _ _ _ h => h) (Or.inl ⟨by rfl, fun w hSw => ?hykbm1⟩) (by assumption) ?rkbm1
  case hykbm1 => (try dsimp only at hSw); go_simp; (try with_reducible rfl)
  (try simp only [Act.put, List.setIfInBounds_toArray, List.set_cons_zero, List.set_cons_succ])
  refine wpAnyH_take (i := 1) (oi := ({ dst := some 5, op := Op.move (Operand.tmp 0), type := 24, pos := "hooks.go:65", after := #[], guard := none } : Oper)) (v := ?vkbm2) rfl (by kernel_rfl) (by kernel_rfl) (by kernel_rfl) (fun _ _ _ h => h) (Or.inl ⟨by rfl, fun w hSw => ?hykbm2⟩) (by assumption) ?rkbm2
  case hykbm2 => (try dsimp only at hSw); go_simp; (try with_reducible rfl)
  (try simp only [Act.put, List.setIfInBounds_toArray, List.set_cons_zero, List.set_cons_succ])
  refine wpAnyH_take (i := 2) (oi := ({ dst := some 6, op := Op.nilCheck (Operand.tmp 5), type := 0, pos := "hooks.go:65", after := #[{ on := 1, ground := Ground.data }], guard := none } : Oper)) (v := ?vkbm3) rfl (by kernel_rfl) (by kernel_rfl) (by kernel_rfl) (fun _ _ _ h => h) (Or.inl ⟨by rfl, fun w hSw => ?hykbm3⟩) (by assumption) ?rkbm3
  case hykbm3 => (try dsimp only at hSw); go_simp; (try with_reducible rfl)
  (try simp only [Act.put, List.setIfInBounds_toArray, List.set_cons_zero, List.set_cons_succ])
  refine wpAnyH_take (i := 3) (oi := ({ dst := some 7, op := Op.fieldAddr 47 (Operand.tmp 6) 0, type := 0, pos := "hooks.go:65", after := #[{ on := 2, ground := Ground.data }], guard := none } : Oper)) (v := ?vkbm4) rfl (by kernel_rfl) (by kernel_rfl) (by kernel_rfl) (fun _ _ _ h => h) (Or.inl ⟨by rfl, fun w hSw => ?hykbm4⟩) (by assumption) ?rkbm4
  case hykbm4 => (try dsimp only at hSw); go_simp; (try with_reducible rfl)
  (try simp only [Act.put, List.setIfInBounds_toArray, List.set_cons_zero, List.set_cons_succ])
  refine wpAnyH_take (i := 4) (oi := ({ dst := some 8, op := Op.load 39 (Operand.tmp 7), type := 39, pos := "hooks.go:65", after := #[{ on := 3, ground := Ground.data }], guard := none } : Oper)) (v := ?vkbm5) rfl (by kernel_rfl) (by kernel_rfl) (by kernel_rfl) (fun _ _ _ h => h) (Or.inl ⟨by rfl, fun w hSw => ?hykbm5⟩) (by assumption) ?rkbm5
  case hykbm5 => (try dsimp only at hSw); go_simp; (try with_reducible rfl)
  (try simp only [Act.put, List.setIfInBounds_toArray, List.set_cons_zero, List.set_cons_succ])
  refine wpAnyH_take (i := 5) (oi := ({ dst := some 9, op := Op.fieldAddr 419 (Operand.tmp 1) 0, type := 0, pos := "hooks.go:65", after := #[], guard := none } : Oper)) (v := ?vkbm6) rfl (by kernel_rfl) (by kernel_rfl) (by kernel_rfl) (fun _ _ _ h => h) (Or.inl ⟨by rfl, fun w hSw => ?hykbm6⟩) (by assumption) ?rkbm6
  case hykbm6 => (try dsimp only at hSw); go_simp; (try with_reducible rfl)
  (try simp only [Act.put, List.setIfInBounds_toArray, List.set_cons_zero, List.set_cons_succ])
  refine wpAnyH_take (i := 6) (oi := ({ dst := some 10, op := Op.load 35 (Operand.tmp 9), type := 35, pos := "hooks.go:65", after := #[{ on := 5, ground := Ground.data }], guard := none } : Oper)) (v := ?vkbm7) rfl (by kernel_rfl) (by kernel_rfl) (by kernel_rfl) (fun _ _ _ h => h) (Or.inl ⟨by rfl, fun w hSw => ?hykbm7⟩) (by assumption) ?rkbm7
  case hykbm7 => (try dsimp only at hSw); go_simp; (try with_reducible rfl)
  (try simp only [Act.put, List.setIfInBounds_toArray, List.set_cons_zero, List.set_cons_succ])
  refine wpAnyH_ready (rs := [7]) (by kernel_rfl) (by simp) ?_
  refine AllReadyH.cons (o := ({ dst := some 11, op := Op.call { callee := Callee.value (Operand.func 201), args := #[Operand.tmp 8, Operand.tmp 10], argTypes := #[39, 35] }, type := 23, pos := "hooks.go:65", after := #[{ on := 4, ground := Ground.data }, { on := 6, ground := Ground.data }], guard := none } : Oper)) rfl (fun Kq hKq => ?_) AllReadyH.nil
  go_simp
  (refine HLD.out.mono ?_; rintro e' w2 ⟨rfl, X2, h2, hc2⟩; have H2 := Lib.hid (H.out.pgq h2); have HC2 := Lib.hid hc2; clear h2 hc2)
  refine hKq.out _ _ ?_ (fun hHeld => ?_)
  · exact ⟨by rw [← HC2.out]; exact H2.out.pg.c.1, cell_row (H2.out.blk kx HXR.out) 0, cell_row (H2.out.blk kc HCR.out) 0⟩
  clear hKq Kq
  (try simp only [Act.put, List.setIfInBounds_toArray, List.set_cons_zero, List.set_cons_succ])
  refine wpAnyH_take (i := 8) (oi := ({ dst := some 12, op := Op.nilCheck (Operand.tmp 4), type := 0, pos := "hooks.go:65", after := #[{ on := 0, ground := Ground.data }, { on := 0, ground := Ground.phase }, { on := 1, ground := Ground.phase }, { on := 2, ground := Ground.phase }, { on := 3, ground := Ground.phase }, { on := 4, ground := Ground.phase }, { on := 5, ground := Ground.phase }, { on := 6, ground := Ground.phase }, { on := 7, ground := Ground.phase }], guard := none } : Oper)) (v := ?vkbm8) rfl (by kernel_rfl) (by kernel_rfl) (by kernel_rfl) (fun _ _ _ h => h) (Or.inl ⟨by rfl, fun w hSw => ?hykbm8⟩) (by assumption) ?rkbm8
  case hykbm8 => (try dsimp only at hSw); go_simp; (try with_reducible rfl)
  (try simp only [Act.put, List.setIfInBounds_toArray, List.set_cons_zero, List.set_cons_succ])
  refine wpAnyH_take (i := 9) (oi := ({ dst := some 13, op := Op.fieldAddr 422 (Operand.tmp 12) 2, type := 0, pos := "hooks.go:65", after := #[{ on := 8, ground := Ground.data }, { on := 0, ground := Ground.phase }, { on := 1, ground := Ground.phase }, { on := 2, ground := Ground.phase }, { on := 3, ground := Ground.phase }, { on := 4, ground := Ground.phase }, { on := 5, ground := Ground.phase }, { on := 6, ground := Ground.phase }, { on := 7, ground := Ground.phase }], guard := none } : Oper)) (v := ?vkbm9) rfl (by kernel_rfl) (by kernel_rfl) (by kernel_rfl) (fun _ _ _ h => h) (Or.inl ⟨by rfl, fun w hSw => ?hykbm9⟩) (by assumption) ?rkbm9
  case hykbm9 => (try dsimp only at hSw); go_simp; (try with_reducible rfl)
  (try simp only [Act.put, List.setIfInBounds_toArray, List.set_cons_zero, List.set_cons_succ])
  refine wpAnyH_ready (rs := [10]) (by kernel_rfl) (by simp) ?_
  refine AllReadyH.cons (o := ({ dst := none, op := Op.store 23 (Operand.tmp 13) (Operand.tmp 11), type := 0, pos := "hooks.go:65", after := #[{ on := 9, ground := Ground.data }, { on := 7, ground := Ground.data }, { on := 7, ground := Ground.chain }, { on := 0, ground := Ground.phase }, { on := 1, ground := Ground.phase }, { on := 2, ground := Ground.phase }, { on := 3, ground := Ground.phase }, { on := 4, ground := Ground.phase }, { on := 5, ground := Ground.phase }, { on := 6, ground := Ground.phase }, { on := 7, ground := Ground.phase }], guard := none } : Oper)) rfl (fun Kq hKq => ?_) AllReadyH.nil
  (have z0 : w2.cell? ⟨LB, 6, none⟩ = some (.int .u64 (n0 : Int)) := cell_row (H2.out.blk kl HLR.out) 6; have zf : w2.frozen? ⟨LB, 6, none⟩ = false := froz_row (H2.out.blk kl HLR.out) 6; go_simp; have h3 := H2.out.put kl HLR.out 6 (.int .u64 (u0 : Int)) (cs' := #[fnV 289 #[] #[Pw CB, Pw LX], .bool ov, .int .u32 (ca : Int), .int .u64 (cl : Int), .int .u64 (cn : Int), .int .u64 (cc : Int), .int .u64 (u0 : Int)]) rfl; have H3 := Lib.hid h3; clear h3 z0 zf; generalize w2.setCell ⟨LB, 6, none⟩ (.int .u64 (u0 : Int)) = w3 at *)
  refine hKq.out _ _ ?_ (fun hHeld => ?_)
  · exact ⟨by rw [← HC2.out]; exact H3.out.pg.c.1, cell_row (H3.out.blk kx ((List.getElem?_set_ne HNE.out.1).trans HXR.out)) 0, cell_row (H3.out.blk kc ((List.getElem?_set_ne HNE.out.2).trans HCR.out)) 0⟩
  clear hKq Kq
  (try simp only [Act.put, List.setIfInBounds_toArray, List.set_cons_zero, List.set_cons_succ])
  refine wpAnyH_done (by kernel_rfl) ?_ _
  go_end0
  exact ⟨rfl, X2, H3.out⟩
theorem fstep_ {U : Nat} {Fq : Fr} (h : Wq w0 w base WB M r j l X) (hju : j ≠ u) (hu : r[u]? = some (freeP U Fq)) (ok : FrOk M Fq) (h7 : Fq.ln ≤ 7) :
    Calls Tryz.prog 151 #[Pw U, Pw WB] w fun e' w' => e' = .returned (.bool (decide ((fstepK M Fq).ln = 0))) ∧ ∃ X', Wq w0 w' base WB (fstepM M Fq) (r.set u (freeP U (fstepK M Fq))) j l X' := by
  refine (step_f (h.free hju hu) ok h7).mono ?_
  rintro e' w' ⟨rfl, X', h'⟩
  exact ⟨rfl, X', wq_free h' hju h.hj⟩
set_option maxRecDepth 100000 in
set_option maxHeartbeats 4000000 in
theorem sstep_u {SB ks : Nat} (h : Wq w0 w base WB M r j l X) (hs : l[ks]? = some (SB, slpO D.t D.on D.at' 0)) (hon : D.on = true) (ht : D.t < 64) (hpn : M.pn ≤ 1000000000) (g : Nat) (hg : g = S4.untilO (M.pf (2 * D.t)) D.at' M.T) :
    Calls Tryz.prog 280 #[Pw SB, Pw WB] w fun e' w' => e' = .returned (.bool (decide (g ≠ 0))) ∧ ∃ X', Wq w0 w' base WB (M.until (2 * D.t) D.at') r j (l.set ks (SB, slpO D.t D.on D.at' g)) X' := by
  have y0 : w.cell? ⟨SB, 0, none⟩ = some (.int .i64 (2 * (D.t : Int))) := cell_row (h.blk ks hs) 0
  have y1 : w.cell? ⟨SB, 1, none⟩ = some (.bool D.on) := cell_row (h.blk ks hs) 1
  have y2 : w.cell? ⟨SB, 2, none⟩ = some (.int .u64 (D.at' : Int)) := cell_row (h.blk ks hs) 2
  have hp2 := h.pg.c.2.1
  have hk1 := h.pg.k1
  obtain ⟨pB, hpB⟩ : ∃ pB, X.pB = pB := ⟨_, rfl⟩
  obtain ⟨kB, hkB⟩ : ∃ kB, X.kB = kB := ⟨_, rfl⟩
  rw [hpB] at hp2
  rw [hkB] at hk1
  have h64 : 2 * (D.t : Int) = ((2 * D.t : Nat) : Int) := by omega
  have hun := (h.new (Below.refl _ w).drew).pg.untilk (i := 2 * D.t) hpn (by omega) D.at'
  rw [hpB, ← h64, ← hg] at hun
  have hcl : Calls Tryz.prog 281 #[Pw pB, .int .i64 (2 * (D.t : Int)), .int .u64 (D.at' : Int), .int .u64 (M.T : Int)] w.drew fun e w' => e = .returned (.int .u8 (g : Int)) ∧ ∃ X', Pg w0 w' base WB (M.until (2 * D.t) D.at') (r.set j (rowsP l)) X' ∧ X'.pB = pB ∧ X'.kB = kB := by
    rw [hkB] at hun
    exact hun
  have hnw := (h.new (Below.refl _ w).drew).pg.clk
  rw [hkB] at hnw
  have HNW := Lib.hid hnw
  clear hun hnw
  generalize (M.T : Int) = now at *
  have HCL := Lib.hid hcl; have H := Lib.hid h; have HSR := Lib.hid hs
  have eg : ((g : Int) == 0) = decide (g = 0) := by rw [beqI]; exact decN0 g
  have eg2 : ((g : Int) != 0) = decide (g ≠ 0) := by show (!(_ == _)) = _; rw [eg]; by_cases e : g = 0 <;> simp [e]
  generalize decide (g ≠ 0) = bg at *
  have hon2 : some (Value.bool D.on) = some (.bool true) := by rw [hon]
  have y1' := y1.trans hon2
  clear h hs ht hpn hpB hkB hcl h64 hg eg
  go_enter Tryz.func280, Tryz.ntmps280
  go_upto_region 2 with fail
  clear y1' hon2
  refine wp_region_held_drew (S := fun w' => w'.cell? ⟨WB, 2, none⟩ = some (Pw pB) ∧ w'.cell? ⟨WB, 1, none⟩ = some (Pw kB) ∧ w'.cell? ⟨SB, 0, none⟩ = some (.int .i64 (2 * (D.t : Int))) ∧ w'.cell? ⟨SB, 1, none⟩ = some (.bool D.on) ∧ w'.cell? ⟨SB, 2, none⟩ = some (.int .u64 (D.at' : Int))) (by kernel_rfl) ?_ (fun hHeld => ?_)
  · exact ⟨hp2, hk1, y0, y1, y2⟩
  refine wpAnyH_take (i := 0) (oi := ({ dst := some 10, op := Op.move (Operand.tmp 0), type := 200, pos := "parts.go:154", after := #[], guard := none } : Oper)) (v := ?vkdam1) rfl (by kernel_rfl) (by kernel_rfl) (by kernel_rfl) (fun _ _ _ h => h) (Or.inl ⟨by rfl, fun w hSw => ?hykdam1⟩) (by assumption) ?rkdam1
  case hykdam1 => (try dsimp only at hSw); go_simp; (try with_reducible rfl)
  (try simp only [Act.put, List.setIfInBounds_toArray, List.set_cons_zero, List.set_cons_succ])
  refine wpAnyH_take (i := 1) (oi := ({ dst := some 11, op := Op.move (Operand.tmp 1), type := 24, pos := "parts.go:154", after := #[], guard := none } : Oper)) (v := ?vkdam2) rfl (by kernel_rfl) (by kernel_rfl) (by kernel_rfl) (fun _ _ _ h => h) (Or.inl ⟨by rfl, fun w hSw => ?hykdam2⟩) (by assumption) ?rkdam2
  case hykdam2 => (try dsimp only at hSw); go_simp; (try with_reducible rfl)
  (try simp only [Act.put, List.setIfInBounds_toArray, List.set_cons_zero, List.set_cons_succ])
  refine wpAnyH_take (i := 2) (oi := ({ dst := some 12, op := Op.nilCheck (Operand.tmp 11), type := 0, pos := "parts.go:154", after := #[{ on := 1, ground := Ground.data }], guard := none } : Oper)) (v := ?vkdam3) rfl (by kernel_rfl) (by kernel_rfl) (by kernel_rfl) (fun _ _ _ h => h) (Or.inl ⟨by rfl, fun w hSw => ?hykdam3⟩) (by assumption) ?rkdam3
  case hykdam3 => (try dsimp only at hSw); go_simp; (try with_reducible rfl)
  (try simp only [Act.put, List.setIfInBounds_toArray, List.set_cons_zero, List.set_cons_succ])
  refine wpAnyH_take (i := 3) (oi := ({ dst := some 13, op := Op.fieldAddr 47 (Operand.tmp 12) 2, type := 0, pos := "parts.go:154", after := #[{ on := 2, ground := Ground.data }], guard := none } : Oper)) (v := ?vkdam4) rfl (by kernel_rfl) (by kernel_rfl) (by kernel_rfl) (fun _ _ _ h => h) (Or.inl ⟨by rfl, fun w hSw => ?hykdam4⟩) (by assumption) ?rkdam4
  case hykdam4 => (try dsimp only at hSw); go_simp; (try with_reducible rfl)
  (try simp only [Act.put, List.setIfInBounds_toArray, List.set_cons_zero, List.set_cons_succ])
  refine wpAnyH_take (i := 4) (oi := ({ dst := some 14, op := Op.load 41 (Operand.tmp 13), type := 41, pos := "parts.go:154", after := #[{ on := 3, ground := Ground.data }], guard := none } : Oper)) (v := ?vkdam5) rfl (by kernel_rfl) (by kernel_rfl) (by kernel_rfl) (fun _ _ _ h => h) (Or.inl ⟨by rfl, fun w hSw => ?hykdam5⟩) (by assumption) ?rkdam5
  case hykdam5 => (try dsimp only at hSw); go_simp; (try with_reducible rfl)
  (try simp only [Act.put, List.setIfInBounds_toArray, List.set_cons_zero, List.set_cons_succ])
  refine wpAnyH_take (i := 5) (oi := ({ dst := some 15, op := Op.move (Operand.tmp 0), type := 200, pos := "parts.go:154", after := #[], guard := none } : Oper)) (v := ?vkdam6) rfl (by kernel_rfl) (by kernel_rfl) (by kernel_rfl) (fun _ _ _ h => h) (Or.inl ⟨by rfl, fun w hSw => ?hykdam6⟩) (by assumption) ?rkdam6
  case hykdam6 => (try dsimp only at hSw); go_simp; (try with_reducible rfl)
  (try simp only [Act.put, List.setIfInBounds_toArray, List.set_cons_zero, List.set_cons_succ])
  refine wpAnyH_take (i := 6) (oi := ({ dst := some 16, op := Op.nilCheck (Operand.tmp 15), type := 0, pos := "parts.go:154", after := #[{ on := 5, ground := Ground.data }], guard := none } : Oper)) (v := ?vkdam7) rfl (by kernel_rfl) (by kernel_rfl) (by kernel_rfl) (fun _ _ _ h => h) (Or.inl ⟨by rfl, fun w hSw => ?hykdam7⟩) (by assumption) ?rkdam7
  case hykdam7 => (try dsimp only at hSw); go_simp; (try with_reducible rfl)
  (try simp only [Act.put, List.setIfInBounds_toArray, List.set_cons_zero, List.set_cons_succ])
  refine wpAnyH_take (i := 7) (oi := ({ dst := some 17, op := Op.fieldAddr 384 (Operand.tmp 16) 0, type := 0, pos := "parts.go:154", after := #[{ on := 6, ground := Ground.data }], guard := none } : Oper)) (v := ?vkdam8) rfl (by kernel_rfl) (by kernel_rfl) (by kernel_rfl) (fun _ _ _ h => h) (Or.inl ⟨by rfl, fun w hSw => ?hykdam8⟩) (by assumption) ?rkdam8
  case hykdam8 => (try dsimp only at hSw); go_simp; (try with_reducible rfl)
  (try simp only [Act.put, List.setIfInBounds_toArray, List.set_cons_zero, List.set_cons_succ])
  refine wpAnyH_take (i := 8) (oi := ({ dst := some 18, op := Op.load 3 (Operand.tmp 17), type := 3, pos := "parts.go:154", after := #[{ on := 7, ground := Ground.data }], guard := none } : Oper)) (v := ?vkdam9) rfl (by kernel_rfl) (by kernel_rfl) (by kernel_rfl) (fun _ _ _ h => h) (Or.inl ⟨by rfl, fun w hSw => ?hykdam9⟩) (by assumption) ?rkdam9
  case hykdam9 => (try dsimp only at hSw); go_simp; (try with_reducible rfl)
  (try simp only [Act.put, List.setIfInBounds_toArray, List.set_cons_zero, List.set_cons_succ])
  refine wpAnyH_take (i := 9) (oi := ({ dst := some 19, op := Op.move (Operand.tmp 0), type := 200, pos := "parts.go:154", after := #[], guard := none } : Oper)) (v := ?vkdam10) rfl (by kernel_rfl) (by kernel_rfl) (by kernel_rfl) (fun _ _ _ h => h) (Or.inl ⟨by rfl, fun w hSw => ?hykdam10⟩) (by assumption) ?rkdam10
  case hykdam10 => (try dsimp only at hSw); go_simp; (try with_reducible rfl)
  (try simp only [Act.put, List.setIfInBounds_toArray, List.set_cons_zero, List.set_cons_succ])
  refine wpAnyH_take (i := 10) (oi := ({ dst := some 20, op := Op.nilCheck (Operand.tmp 19), type := 0, pos := "parts.go:154", after := #[{ on := 9, ground := Ground.data }], guard := none } : Oper)) (v := ?vkdam11) rfl (by kernel_rfl) (by kernel_rfl) (by kernel_rfl) (fun _ _ _ h => h) (Or.inl ⟨by rfl, fun w hSw => ?hykdam11⟩) (by assumption) ?rkdam11
  case hykdam11 => (try dsimp only at hSw); go_simp; (try with_reducible rfl)
  (try simp only [Act.put, List.setIfInBounds_toArray, List.set_cons_zero, List.set_cons_succ])
  refine wpAnyH_take (i := 11) (oi := ({ dst := some 21, op := Op.fieldAddr 384 (Operand.tmp 20) 1, type := 0, pos := "parts.go:154", after := #[{ on := 10, ground := Ground.data }], guard := none } : Oper)) (v := ?vkdam12) rfl (by kernel_rfl) (by kernel_rfl) (by kernel_rfl) (fun _ _ _ h => h) (Or.inl ⟨by rfl, fun w hSw => ?hykdam12⟩) (by assumption) ?rkdam12
  case hykdam12 => (try dsimp only at hSw); go_simp; (try with_reducible rfl)
  (try simp only [Act.put, List.setIfInBounds_toArray, List.set_cons_zero, List.set_cons_succ])
  refine wpAnyH_take (i := 12) (oi := ({ dst := some 22, op := Op.fieldAddr 31 (Operand.tmp 21) 1, type := 0, pos := "parts.go:154", after := #[{ on := 11, ground := Ground.data }], guard := none } : Oper)) (v := ?vkdam13) rfl (by kernel_rfl) (by kernel_rfl) (by kernel_rfl) (fun _ _ _ h => h) (Or.inl ⟨by rfl, fun w hSw => ?hykdam13⟩) (by assumption) ?rkdam13
  case hykdam13 => (try dsimp only at hSw); go_simp; (try with_reducible rfl)
  (try simp only [Act.put, List.setIfInBounds_toArray, List.set_cons_zero, List.set_cons_succ])
  refine wpAnyH_take (i := 13) (oi := ({ dst := some 23, op := Op.load 23 (Operand.tmp 22), type := 23, pos := "parts.go:154", after := #[{ on := 12, ground := Ground.data }], guard := none } : Oper)) (v := ?vkdam14) rfl (by kernel_rfl) (by kernel_rfl) (by kernel_rfl) (fun _ _ _ h => h) (Or.inl ⟨by rfl, fun w hSw => ?hykdam14⟩) (by assumption) ?rkdam14
  case hykdam14 => (try dsimp only at hSw); go_simp; (try with_reducible rfl)
  (try simp only [Act.put, List.setIfInBounds_toArray, List.set_cons_zero, List.set_cons_succ])
  refine wpAnyH_take (i := 14) (oi := ({ dst := some 24, op := Op.move (Operand.tmp 1), type := 24, pos := "parts.go:154", after := #[], guard := none } : Oper)) (v := ?vkdam15) rfl (by kernel_rfl) (by kernel_rfl) (by kernel_rfl) (fun _ _ _ h => h) (Or.inl ⟨by rfl, fun w hSw => ?hykdam15⟩) (by assumption) ?rkdam15
  case hykdam15 => (try dsimp only at hSw); go_simp; (try with_reducible rfl)
  (try simp only [Act.put, List.setIfInBounds_toArray, List.set_cons_zero, List.set_cons_succ])
  refine wpAnyH_take (i := 15) (oi := ({ dst := some 25, op := Op.nilCheck (Operand.tmp 24), type := 0, pos := "parts.go:154", after := #[{ on := 14, ground := Ground.data }], guard := none } : Oper)) (v := ?vkdam16) rfl (by kernel_rfl) (by kernel_rfl) (by kernel_rfl) (fun _ _ _ h => h) (Or.inl ⟨by rfl, fun w hSw => ?hykdam16⟩) (by assumption) ?rkdam16
  case hykdam16 => (try dsimp only at hSw); go_simp; (try with_reducible rfl)
  (try simp only [Act.put, List.setIfInBounds_toArray, List.set_cons_zero, List.set_cons_succ])
  refine wpAnyH_take (i := 16) (oi := ({ dst := some 26, op := Op.fieldAddr 47 (Operand.tmp 25) 1, type := 0, pos := "parts.go:154", after := #[{ on := 15, ground := Ground.data }], guard := none } : Oper)) (v := ?vkdam17) rfl (by kernel_rfl) (by kernel_rfl) (by kernel_rfl) (fun _ _ _ h => h) (Or.inl ⟨by rfl, fun w hSw => ?hykdam17⟩) (by assumption) ?rkdam17
  case hykdam17 => (try dsimp only at hSw); go_simp; (try with_reducible rfl)
  (try simp only [Act.put, List.setIfInBounds_toArray, List.set_cons_zero, List.set_cons_succ])
  refine wpAnyH_take (i := 17) (oi := ({ dst := some 27, op := Op.load 40 (Operand.tmp 26), type := 40, pos := "parts.go:154", after := #[{ on := 16, ground := Ground.data }], guard := none } : Oper)) (v := ?vkdam18) rfl (by kernel_rfl) (by kernel_rfl) (by kernel_rfl) (fun _ _ _ h => h) (Or.inl ⟨by rfl, fun w hSw => ?hykdam18⟩) (by assumption) ?rkdam18
  case hykdam18 => (try dsimp only at hSw); go_simp; (try with_reducible rfl)
  (try simp only [Act.put, List.setIfInBounds_toArray, List.set_cons_zero, List.set_cons_succ])
  refine wpAnyH_ready (rs := [18]) (by kernel_rfl) (by simp) ?_
  refine AllReadyH.cons (o := ({ dst := some 28, op := Op.call { callee := Callee.value (Operand.func 64), args := #[Operand.tmp 27], argTypes := #[40] }, type := 23, pos := "parts.go:154", after := #[{ on := 17, ground := Ground.data }], guard := none } : Oper)) rfl (fun Kq hKq => ?_) AllReadyH.nil
  go_simp
  (refine HNW.out.mono ?_; rintro e' w1 ⟨rfl, rfl⟩)
  refine hKq.out _ _ ?_ (fun hHeld => ?_)
  · exact hHeld
  clear hKq Kq
  (try simp only [Act.put, List.setIfInBounds_toArray, List.set_cons_zero, List.set_cons_succ])
  refine wpAnyH_ready (rs := [19]) (by kernel_rfl) (by simp) ?_
  refine AllReadyH.cons (o := ({ dst := some 29, op := Op.call { callee := Callee.value (Operand.func 281), args := #[Operand.tmp 14, Operand.tmp 18, Operand.tmp 23, Operand.tmp 28], argTypes := #[41, 3, 23, 23] }, type := 382, pos := "parts.go:154", after := #[{ on := 4, ground := Ground.data }, { on := 8, ground := Ground.data }, { on := 13, ground := Ground.data }, { on := 18, ground := Ground.data }, { on := 18, ground := Ground.chain }], guard := none } : Oper)) rfl (fun Kq hKq => ?_) AllReadyH.nil
  go_simp
  (refine HCL.out.mono ?_; rintro e' w2 ⟨rfl, X2, h2, hc2, hk2⟩; have H2 := Lib.hid (H.out.pgq h2); have HC2 := Lib.hid hc2; have HKB2 := Lib.hid hk2; clear hk2; clear h2 hc2)
  refine hKq.out _ _ ?_ (fun hHeld => ?_)
  · exact ⟨by rw [← HC2.out]; exact H2.out.pg.c.2.1, H2.out.pg.k1.trans (by rw [HKB2.out]), cell_row (H2.out.blk ks (HSR.out)) 0, cell_row (H2.out.blk ks (HSR.out)) 1, cell_row (H2.out.blk ks (HSR.out)) 2⟩
  clear hKq Kq
  (try simp only [Act.put, List.setIfInBounds_toArray, List.set_cons_zero, List.set_cons_succ])
  refine wpAnyH_take (i := 20) (oi := ({ dst := some 30, op := Op.nilCheck (Operand.tmp 10), type := 0, pos := "parts.go:154", after := #[{ on := 0, ground := Ground.data }, { on := 0, ground := Ground.phase }, { on := 1, ground := Ground.phase }, { on := 2, ground := Ground.phase }, { on := 3, ground := Ground.phase }, { on := 4, ground := Ground.phase }, { on := 5, ground := Ground.phase }, { on := 6, ground := Ground.phase }, { on := 7, ground := Ground.phase }, { on := 8, ground := Ground.phase }, { on := 9, ground := Ground.phase }, { on := 10, ground := Ground.phase }, { on := 11, ground := Ground.phase }, { on := 12, ground := Ground.phase }, { on := 13, ground := Ground.phase }, { on := 14, ground := Ground.phase }, { on := 15, ground := Ground.phase }, { on := 16, ground := Ground.phase }, { on := 17, ground := Ground.phase }, { on := 18, ground := Ground.phase }, { on := 19, ground := Ground.phase }], guard := none } : Oper)) (v := ?vkdam19) rfl (by kernel_rfl) (by kernel_rfl) (by kernel_rfl) (fun _ _ _ h => h) (Or.inl ⟨by rfl, fun w hSw => ?hykdam19⟩) (by assumption) ?rkdam19
  case hykdam19 => (try dsimp only at hSw); go_simp; (try with_reducible rfl)
  (try simp only [Act.put, List.setIfInBounds_toArray, List.set_cons_zero, List.set_cons_succ])
  refine wpAnyH_take (i := 21) (oi := ({ dst := some 31, op := Op.fieldAddr 384 (Operand.tmp 30) 2, type := 0, pos := "parts.go:154", after := #[{ on := 20, ground := Ground.data }, { on := 0, ground := Ground.phase }, { on := 1, ground := Ground.phase }, { on := 2, ground := Ground.phase }, { on := 3, ground := Ground.phase }, { on := 4, ground := Ground.phase }, { on := 5, ground := Ground.phase }, { on := 6, ground := Ground.phase }, { on := 7, ground := Ground.phase }, { on := 8, ground := Ground.phase }, { on := 9, ground := Ground.phase }, { on := 10, ground := Ground.phase }, { on := 11, ground := Ground.phase }, { on := 12, ground := Ground.phase }, { on := 13, ground := Ground.phase }, { on := 14, ground := Ground.phase }, { on := 15, ground := Ground.phase }, { on := 16, ground := Ground.phase }, { on := 17, ground := Ground.phase }, { on := 18, ground := Ground.phase }, { on := 19, ground := Ground.phase }], guard := none } : Oper)) (v := ?vkdam20) rfl (by kernel_rfl) (by kernel_rfl) (by kernel_rfl) (fun _ _ _ h => h) (Or.inl ⟨by rfl, fun w hSw => ?hykdam20⟩) (by assumption) ?rkdam20
  case hykdam20 => (try dsimp only at hSw); go_simp; (try with_reducible rfl)
  (try simp only [Act.put, List.setIfInBounds_toArray, List.set_cons_zero, List.set_cons_succ])
  refine wpAnyH_ready (rs := [22]) (by kernel_rfl) (by simp) ?_
  refine AllReadyH.cons (o := ({ dst := none, op := Op.store 382 (Operand.tmp 31) (Operand.tmp 29), type := 0, pos := "parts.go:154", after := #[{ on := 21, ground := Ground.data }, { on := 19, ground := Ground.data }, { on := 19, ground := Ground.chain }, { on := 0, ground := Ground.phase }, { on := 1, ground := Ground.phase }, { on := 2, ground := Ground.phase }, { on := 3, ground := Ground.phase }, { on := 4, ground := Ground.phase }, { on := 5, ground := Ground.phase }, { on := 6, ground := Ground.phase }, { on := 7, ground := Ground.phase }, { on := 8, ground := Ground.phase }, { on := 9, ground := Ground.phase }, { on := 10, ground := Ground.phase }, { on := 11, ground := Ground.phase }, { on := 12, ground := Ground.phase }, { on := 13, ground := Ground.phase }, { on := 14, ground := Ground.phase }, { on := 15, ground := Ground.phase }, { on := 16, ground := Ground.phase }, { on := 17, ground := Ground.phase }, { on := 18, ground := Ground.phase }, { on := 19, ground := Ground.phase }], guard := none } : Oper)) rfl (fun Kq hKq => ?_) AllReadyH.nil
  (have z0 : w2.cell? ⟨SB, 3, none⟩ = some (.int .u8 0) := cell_row (H2.out.blk ks HSR.out) 3; have zf : w2.frozen? ⟨SB, 3, none⟩ = false := froz_row (H2.out.blk ks HSR.out) 3; go_simp; have h3 := H2.out.put ks HSR.out 3 (.int .u8 (g : Int)) (cs' := #[.int .i64 (2 * (D.t : Int)), .bool D.on, .int .u64 (D.at' : Int), (.int .u8 (g : Int))]) rfl; have H3 := Lib.hid h3; clear h3 z0 zf; generalize w2.setCell ⟨SB, 3, none⟩ (.int .u8 (g : Int)) = w3 at *)
  refine hKq.out _ _ ?_ (fun hHeld => ?_)
  · exact ⟨by rw [← HC2.out]; exact H3.out.pg.c.2.1, H3.out.pg.k1.trans (by rw [HKB2.out]), cell_row (H3.out.blk ks (List.getElem?_set_self (List.getElem?_eq_some_iff.1 HSR.out).1)) 0, cell_row (H3.out.blk ks (List.getElem?_set_self (List.getElem?_eq_some_iff.1 HSR.out).1)) 1, cell_row (H3.out.blk ks (List.getElem?_set_self (List.getElem?_eq_some_iff.1 HSR.out).1)) 2⟩
  clear hKq Kq
  (try simp only [Act.put, List.setIfInBounds_toArray, List.set_cons_zero, List.set_cons_succ])
  refine wpAnyH_done (by kernel_rfl) ?_ _
  clear hHeld y0 y1 y2
  have z1 : w3.cell? ⟨SB, 3, none⟩ = some (.int .u8 (g : Int)) := cell_row (H3.out.blk ks (List.getElem?_set_self (List.getElem?_eq_some_iff.1 HSR.out).1)) 3
  go_wp2_with fail
  go_ret
  exact ⟨rfl, X2, H3.out⟩
set_option maxRecDepth 100000 in
set_option maxHeartbeats 4000000 in
theorem sstep_p {SB ks : Nat} (h : Wq w0 w base WB M r j l X) (hs : l[ks]? = some (SB, slpO D.t D.on D.at' 0)) (hon : D.on = false) (ht : D.t < 64) (hpn : M.pn ≤ 1000000000) (g : Nat) (hg : g = if (M.pf (2 * D.t)).p then 1 else 0) :
    Calls Tryz.prog 280 #[Pw SB, Pw WB] w fun e' w' => e' = .returned (.bool (decide (g ≠ 0))) ∧ ∃ X', Wq w0 w' base WB (M.park (2 * D.t)) r j (l.set ks (SB, slpO D.t D.on D.at' g)) X' := by
  have y0 : w.cell? ⟨SB, 0, none⟩ = some (.int .i64 (2 * (D.t : Int))) := cell_row (h.blk ks hs) 0
  have y1 : w.cell? ⟨SB, 1, none⟩ = some (.bool D.on) := cell_row (h.blk ks hs) 1
  have y2 : w.cell? ⟨SB, 2, none⟩ = some (.int .u64 (D.at' : Int)) := cell_row (h.blk ks hs) 2
  have hp2 := h.pg.c.2.1
  have hk1 := h.pg.k1
  obtain ⟨pB, hpB⟩ : ∃ pB, X.pB = pB := ⟨_, rfl⟩
  obtain ⟨kB, hkB⟩ : ∃ kB, X.kB = kB := ⟨_, rfl⟩
  rw [hpB] at hp2
  rw [hkB] at hk1
  have h64 : 2 * (D.t : Int) = ((2 * D.t : Nat) : Int) := by omega
  have hpk := (h.new (Below.refl _ w).drew).pg.park (i := 2 * D.t) hpn (by omega)
  have hge : ((if (M.pf (2 * D.t)).p then 1 else 0 : Int)) = (g : Int) := by rw [hg]; split <;> rfl
  rw [hpB, ← h64, hge] at hpk
  have hcl := hpk
  clear hpk hge
  have HCL := Lib.hid hcl; have H := Lib.hid h; have HSR := Lib.hid hs
  have eg : ((g : Int) == 0) = decide (g = 0) := by rw [beqI]; exact decN0 g
  have eg2 : ((g : Int) != 0) = decide (g ≠ 0) := by show (!(_ == _)) = _; rw [eg]; by_cases e : g = 0 <;> simp [e]
  generalize decide (g ≠ 0) = bg at *
  have hon2 : some (Value.bool D.on) = some (.bool false) := by rw [hon]
  have y1' := y1.trans hon2
  clear h hs ht hpn hpB hkB hcl h64 hg eg
  go_enter Tryz.func280, Tryz.ntmps280
  go_upto_region 3 with fail
  clear y1' hon2
  refine wp_region_held_drew (S := fun w' => w'.cell? ⟨WB, 2, none⟩ = some (Pw pB) ∧ w'.cell? ⟨SB, 0, none⟩ = some (.int .i64 (2 * (D.t : Int))) ∧ w'.cell? ⟨SB, 1, none⟩ = some (.bool D.on) ∧ w'.cell? ⟨SB, 2, none⟩ = some (.int .u64 (D.at' : Int))) (by kernel_rfl) ?_ (fun hHeld => ?_)
  · exact ⟨hp2, y0, y1, y2⟩
  refine wpAnyH_take (i := 0) (oi := ({ dst := some 32, op := Op.move (Operand.tmp 0), type := 200, pos := "parts.go:156", after := #[], guard := none } : Oper)) (v := ?vkdbm1) rfl (by kernel_rfl) (by kernel_rfl) (by kernel_rfl) (fun _ _ _ h => h) (Or.inl ⟨by rfl, fun w hSw => ?hykdbm1⟩) (by assumption) ?rkdbm1
  case hykdbm1 => (try dsimp only at hSw); go_simp; (try with_reducible rfl)
  (try simp only [Act.put, List.setIfInBounds_toArray, List.set_cons_zero, List.set_cons_succ])
  refine wpAnyH_take (i := 1) (oi := ({ dst := some 33, op := Op.move (Operand.tmp 1), type := 24, pos := "parts.go:156", after := #[], guard := none } : Oper)) (v := ?vkdbm2) rfl (by kernel_rfl) (by kernel_rfl) (by kernel_rfl) (fun _ _ _ h => h) (Or.inl ⟨by rfl, fun w hSw => ?hykdbm2⟩) (by assumption) ?rkdbm2
  case hykdbm2 => (try dsimp only at hSw); go_simp; (try with_reducible rfl)
  (try simp only [Act.put, List.setIfInBounds_toArray, List.set_cons_zero, List.set_cons_succ])
  refine wpAnyH_take (i := 2) (oi := ({ dst := some 34, op := Op.nilCheck (Operand.tmp 33), type := 0, pos := "parts.go:156", after := #[{ on := 1, ground := Ground.data }], guard := none } : Oper)) (v := ?vkdbm3) rfl (by kernel_rfl) (by kernel_rfl) (by kernel_rfl) (fun _ _ _ h => h) (Or.inl ⟨by rfl, fun w hSw => ?hykdbm3⟩) (by assumption) ?rkdbm3
  case hykdbm3 => (try dsimp only at hSw); go_simp; (try with_reducible rfl)
  (try simp only [Act.put, List.setIfInBounds_toArray, List.set_cons_zero, List.set_cons_succ])
  refine wpAnyH_take (i := 3) (oi := ({ dst := some 35, op := Op.fieldAddr 47 (Operand.tmp 34) 2, type := 0, pos := "parts.go:156", after := #[{ on := 2, ground := Ground.data }], guard := none } : Oper)) (v := ?vkdbm4) rfl (by kernel_rfl) (by kernel_rfl) (by kernel_rfl) (fun _ _ _ h => h) (Or.inl ⟨by rfl, fun w hSw => ?hykdbm4⟩) (by assumption) ?rkdbm4
  case hykdbm4 => (try dsimp only at hSw); go_simp; (try with_reducible rfl)
  (try simp only [Act.put, List.setIfInBounds_toArray, List.set_cons_zero, List.set_cons_succ])
  refine wpAnyH_take (i := 4) (oi := ({ dst := some 36, op := Op.load 41 (Operand.tmp 35), type := 41, pos := "parts.go:156", after := #[{ on := 3, ground := Ground.data }], guard := none } : Oper)) (v := ?vkdbm5) rfl (by kernel_rfl) (by kernel_rfl) (by kernel_rfl) (fun _ _ _ h => h) (Or.inl ⟨by rfl, fun w hSw => ?hykdbm5⟩) (by assumption) ?rkdbm5
  case hykdbm5 => (try dsimp only at hSw); go_simp; (try with_reducible rfl)
  (try simp only [Act.put, List.setIfInBounds_toArray, List.set_cons_zero, List.set_cons_succ])
  refine wpAnyH_take (i := 5) (oi := ({ dst := some 37, op := Op.move (Operand.tmp 0), type := 200, pos := "parts.go:156", after := #[], guard := none } : Oper)) (v := ?vkdbm6) rfl (by kernel_rfl) (by kernel_rfl) (by kernel_rfl) (fun _ _ _ h => h) (Or.inl ⟨by rfl, fun w hSw => ?hykdbm6⟩) (by assumption) ?rkdbm6
  case hykdbm6 => (try dsimp only at hSw); go_simp; (try with_reducible rfl)
  (try simp only [Act.put, List.setIfInBounds_toArray, List.set_cons_zero, List.set_cons_succ])
  refine wpAnyH_take (i := 6) (oi := ({ dst := some 38, op := Op.nilCheck (Operand.tmp 37), type := 0, pos := "parts.go:156", after := #[{ on := 5, ground := Ground.data }], guard := none } : Oper)) (v := ?vkdbm7) rfl (by kernel_rfl) (by kernel_rfl) (by kernel_rfl) (fun _ _ _ h => h) (Or.inl ⟨by rfl, fun w hSw => ?hykdbm7⟩) (by assumption) ?rkdbm7
  case hykdbm7 => (try dsimp only at hSw); go_simp; (try with_reducible rfl)
  (try simp only [Act.put, List.setIfInBounds_toArray, List.set_cons_zero, List.set_cons_succ])
  refine wpAnyH_take (i := 7) (oi := ({ dst := some 39, op := Op.fieldAddr 384 (Operand.tmp 38) 0, type := 0, pos := "parts.go:156", after := #[{ on := 6, ground := Ground.data }], guard := none } : Oper)) (v := ?vkdbm8) rfl (by kernel_rfl) (by kernel_rfl) (by kernel_rfl) (fun _ _ _ h => h) (Or.inl ⟨by rfl, fun w hSw => ?hykdbm8⟩) (by assumption) ?rkdbm8
  case hykdbm8 => (try dsimp only at hSw); go_simp; (try with_reducible rfl)
  (try simp only [Act.put, List.setIfInBounds_toArray, List.set_cons_zero, List.set_cons_succ])
  refine wpAnyH_take (i := 8) (oi := ({ dst := some 40, op := Op.load 3 (Operand.tmp 39), type := 3, pos := "parts.go:156", after := #[{ on := 7, ground := Ground.data }], guard := none } : Oper)) (v := ?vkdbm9) rfl (by kernel_rfl) (by kernel_rfl) (by kernel_rfl) (fun _ _ _ h => h) (Or.inl ⟨by rfl, fun w hSw => ?hykdbm9⟩) (by assumption) ?rkdbm9
  case hykdbm9 => (try dsimp only at hSw); go_simp; (try with_reducible rfl)
  (try simp only [Act.put, List.setIfInBounds_toArray, List.set_cons_zero, List.set_cons_succ])
  refine wpAnyH_ready (rs := [9]) (by kernel_rfl) (by simp) ?_
  refine AllReadyH.cons (o := ({ dst := some 41, op := Op.call { callee := Callee.value (Operand.func 282), args := #[Operand.tmp 36, Operand.tmp 40], argTypes := #[41, 3] }, type := 382, pos := "parts.go:156", after := #[{ on := 4, ground := Ground.data }, { on := 8, ground := Ground.data }], guard := none } : Oper)) rfl (fun Kq hKq => ?_) AllReadyH.nil
  go_simp
  (refine HCL.out.mono ?_; rintro e' w2 ⟨rfl, X2, h2, hc2⟩; have H2 := Lib.hid (H.out.pgq h2); have HC2 := Lib.hid hc2; clear h2 hc2)
  refine hKq.out _ _ ?_ (fun hHeld => ?_)
  · exact ⟨by rw [← HC2.out]; exact H2.out.pg.c.2.1, cell_row (H2.out.blk ks (HSR.out)) 0, cell_row (H2.out.blk ks (HSR.out)) 1, cell_row (H2.out.blk ks (HSR.out)) 2⟩
  clear hKq Kq
  (try simp only [Act.put, List.setIfInBounds_toArray, List.set_cons_zero, List.set_cons_succ])
  refine wpAnyH_take (i := 10) (oi := ({ dst := some 42, op := Op.nilCheck (Operand.tmp 32), type := 0, pos := "parts.go:156", after := #[{ on := 0, ground := Ground.data }, { on := 0, ground := Ground.phase }, { on := 1, ground := Ground.phase }, { on := 2, ground := Ground.phase }, { on := 3, ground := Ground.phase }, { on := 4, ground := Ground.phase }, { on := 5, ground := Ground.phase }, { on := 6, ground := Ground.phase }, { on := 7, ground := Ground.phase }, { on := 8, ground := Ground.phase }, { on := 9, ground := Ground.phase }], guard := none } : Oper)) (v := ?vkdbm10) rfl (by kernel_rfl) (by kernel_rfl) (by kernel_rfl) (fun _ _ _ h => h) (Or.inl ⟨by rfl, fun w hSw => ?hykdbm10⟩) (by assumption) ?rkdbm10
  case hykdbm10 => (try dsimp only at hSw); go_simp; (try with_reducible rfl)
  (try simp only [Act.put, List.setIfInBounds_toArray, List.set_cons_zero, List.set_cons_succ])
  refine wpAnyH_take (i := 11) (oi := ({ dst := some 43, op := Op.fieldAddr 384 (Operand.tmp 42) 2, type := 0, pos := "parts.go:156", after := #[{ on := 10, ground := Ground.data }, { on := 0, ground := Ground.phase }, { on := 1, ground := Ground.phase }, { on := 2, ground := Ground.phase }, { on := 3, ground := Ground.phase }, { on := 4, ground := Ground.phase }, { on := 5, ground := Ground.phase }, { on := 6, ground := Ground.phase }, { on := 7, ground := Ground.phase }, { on := 8, ground := Ground.phase }, { on := 9, ground := Ground.phase }], guard := none } : Oper)) (v := ?vkdbm11) rfl (by kernel_rfl) (by kernel_rfl) (by kernel_rfl) (fun _ _ _ h => h) (Or.inl ⟨by rfl, fun w hSw => ?hykdbm11⟩) (by assumption) ?rkdbm11
  case hykdbm11 => (try dsimp only at hSw); go_simp; (try with_reducible rfl)
  (try simp only [Act.put, List.setIfInBounds_toArray, List.set_cons_zero, List.set_cons_succ])
  refine wpAnyH_ready (rs := [12]) (by kernel_rfl) (by simp) ?_
  refine AllReadyH.cons (o := ({ dst := none, op := Op.store 382 (Operand.tmp 43) (Operand.tmp 41), type := 0, pos := "parts.go:156", after := #[{ on := 11, ground := Ground.data }, { on := 9, ground := Ground.data }, { on := 9, ground := Ground.chain }, { on := 0, ground := Ground.phase }, { on := 1, ground := Ground.phase }, { on := 2, ground := Ground.phase }, { on := 3, ground := Ground.phase }, { on := 4, ground := Ground.phase }, { on := 5, ground := Ground.phase }, { on := 6, ground := Ground.phase }, { on := 7, ground := Ground.phase }, { on := 8, ground := Ground.phase }, { on := 9, ground := Ground.phase }], guard := none } : Oper)) rfl (fun Kq hKq => ?_) AllReadyH.nil
  (have z0 : w2.cell? ⟨SB, 3, none⟩ = some (.int .u8 0) := cell_row (H2.out.blk ks HSR.out) 3; have zf : w2.frozen? ⟨SB, 3, none⟩ = false := froz_row (H2.out.blk ks HSR.out) 3; go_simp; have h3 := H2.out.put ks HSR.out 3 (.int .u8 (g : Int)) (cs' := #[.int .i64 (2 * (D.t : Int)), .bool D.on, .int .u64 (D.at' : Int), (.int .u8 (g : Int))]) rfl; have H3 := Lib.hid h3; clear h3 z0 zf; generalize w2.setCell ⟨SB, 3, none⟩ (.int .u8 (g : Int)) = w3 at *)
  refine hKq.out _ _ ?_ (fun hHeld => ?_)
  · exact ⟨by rw [← HC2.out]; exact H3.out.pg.c.2.1, cell_row (H3.out.blk ks (List.getElem?_set_self (List.getElem?_eq_some_iff.1 HSR.out).1)) 0, cell_row (H3.out.blk ks (List.getElem?_set_self (List.getElem?_eq_some_iff.1 HSR.out).1)) 1, cell_row (H3.out.blk ks (List.getElem?_set_self (List.getElem?_eq_some_iff.1 HSR.out).1)) 2⟩
  clear hKq Kq
  (try simp only [Act.put, List.setIfInBounds_toArray, List.set_cons_zero, List.set_cons_succ])
  refine wpAnyH_done (by kernel_rfl) ?_ _
  clear hHeld y0 y1 y2
  have z1 : w3.cell? ⟨SB, 3, none⟩ = some (.int .u8 (g : Int)) := cell_row (H3.out.blk ks (List.getElem?_set_self (List.getElem?_eq_some_iff.1 HSR.out).1)) 3
  go_wp2_with fail
  go_ret
  exact ⟨rfl, X2, H3.out⟩
end
end Go.Proofs.YtjppncglkijbjaaGreatDoor.S18
