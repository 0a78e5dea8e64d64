/- Texts of this seat, one behind the other. -/
import Derived.Test.YtieiiabbeglmfaaGreatDoorMLawFair201
import Derived.Test.YtieiiabbeglmfaaGreatDoorMLawFair2036
import Derived.StillTailTactics
import Derived.Deep.RegionLaw
set_option linter.unusedVariables false
set_option linter.unusedSimpArgs false
set_option linter.unusedVariables false
set_option linter.unusedSimpArgs false
set_option linter.unusedVariables false
set_option linter.unusedSimpArgs false
namespace Go.Proofs.YtieiiabbeglmfaaGreatDoor.S18
set_option maxRecDepth 100000
set_option maxHeartbeats 16000000
open Go.Proofs.YtieiiabbeglmfaaGreatDoor Go.Proofs.YtieiiabbeglmfaaGreatDoor.S11 Go.Proofs.YtieiiabbeglmfaaGreatDoor.S12 Go.Proofs.YtieiiabbeglmfaaGreatDoor.S13 Go.Proofs.YtieiiabbeglmfaaGreatDoor.S14 Go.Proofs.YtieiiabbeglmfaaGreatDoor.S15 Go.Proofs.YtieiiabbeglmfaaGreatDoor.S16
open Go.RowKit
theorem merge2 {α β : Type} {S P : α → β → World → Prop} {G : Prop} (h2 : (∀ x y W, S x y W → P x y W) → G) (h1 : ∀ x y W, S x y W → P x y W) : G := h2 h1
section
variable {w0 w w' : World} {base WB : Nat} {M : Sd} {r : List Part} {j e u B : Nat} {l l' : Rows} {X : Wm} {D : Pd} {pb pi : Int} {p b : Value} {o : Nat}
theorem _root_.Go.Proofs.YtieiiabbeglmfaaGreatDoor.S16.Wq.pgq (h : Wq w0 w base WB M r j l X) {M' : Sd} {X' : Wm} (hp : Pg w0 w' base WB M' (r.set j (rowsP l)) X') : Wq w0 w' base WB M' r j l X' := ⟨hp, h.hj⟩
theorem store1_ {XB k : Nat} (h : Wq w0 w base WB M r j l X) (hb : l[0]? = some (B, pkO D pb pi p b o)) (hx : l[k]? = some (XB, xO B)) (ht : D.t < 64) (hk : D.k < 4294967296) (hn : M.n ≤ 1000000000) :
    Calls Tryz.prog 186 #[Pw WB, Pw XB] w fun e' w' => e' = .returned (.tuple #[]) ∧ ∃ X', Wq w0 w' base WB (M.acc 2 (64 + D.t) D.k) r j l X' := by
  have y0 : w.cell? ⟨XB, 0, none⟩ = some (Pw B) := cell_row (h.blk k hx) 0
  have c0 : w.cell? ⟨B, 0, none⟩ = some (.int .i64 (D.t : Int)) := cell_row (h.blk 0 hb) 0
  have c1 : w.cell? ⟨B, 1, none⟩ = some (.int .u32 (D.k : Int)) := cell_row (h.blk 0 hb) 1
  have hc0 := h.pg.c.1
  obtain ⟨cb, hcb⟩ : ∃ cb, X.cB = cb := ⟨_, rfl⟩
  rw [hcb] at hc0
  have hst := (h.new (Below.refl _ w).drew).pg.store (a := 64 + D.t) (v := D.k) (by omega) (by omega) hn
  rw [hcb] at hst
  obtain ⟨ad, had⟩ : ∃ ad, ad = 64 + D.t := ⟨_, rfl⟩
  rw [← had] at hst
  rw [← had]
  have HST := Lib.hid hst; have H := Lib.hid h; have HXR := Lib.hid hx; have HBR := Lib.hid hb; have HCB := Lib.hid hcb
  have e1 : IntKind.u32.wrap (D.t : Int) = (D.t : Int) := by rw [IntKind.wrap_u32]; omega
  have e2 : IntKind.u32.wrap (64 + (D.t : Int)) = ((ad : Nat) : Int) := by rw [IntKind.wrap_u32]; omega
  have e3 : IntKind.u64.wrap (D.k : Int) = (D.k : Int) := by rw [IntKind.wrap_u64]; omega
  clear h hb hx ht hk hn hcb hst had
  go_enter Tryz.func186, Tryz.ntmps186
  refine wp_region_held_drew (S := fun w' => w'.cell? ⟨WB, 0, none⟩ = some (Pw cb) ∧ w'.cell? ⟨XB, 0, none⟩ = some (Pw B) ∧ w'.cell? ⟨B, 0, none⟩ = some (.int .i64 (D.t : Int)) ∧ w'.cell? ⟨B, 1, none⟩ = some (.int .u32 (D.k : Int))) (by kernel_rfl) ?_ (fun hHeld => ?_)
  · exact ⟨hc0, y0, c0, c1⟩
  refine tA 0 ⟨some 3, .move (.tmp 0), 24, "parts.go:55", #[], none⟩ ?vstm1 ?rstm1
  (try simp only [Act.put, tC, tD, tE])
  refine tA 1 ⟨some 4, .nilCheck (.tmp 3), 0, "parts.go:55", #[⟨0, .data⟩], none⟩ ?vstm2 ?rstm2
  (try simp only [Act.put, tC, tD, tE])
  refine tA 2 ⟨some 5, .fieldAddr 47 (.tmp 4) 0, 0, "parts.go:55", #[⟨1, .data⟩], none⟩ ?vstm3 ?rstm3
  (try simp only [Act.put, tC, tD, tE])
  refine tA 3 ⟨some 6, .load 39 (.tmp 5), 39, "parts.go:55", #[⟨2, .data⟩], none⟩ ?vstm4 ?rstm4
  (try simp only [Act.put, tC, tD, tE])
  refine tA 4 ⟨some 7, .load 32 (.tmp 1), 32, "parts.go:55", #[], none⟩ ?vstm5 ?rstm5
  (try simp only [Act.put, tC, tD, tE])
  refine tA 5 ⟨some 8, .nilCheck (.tmp 7), 0, "parts.go:55", #[⟨4, .data⟩], none⟩ ?vstm6 ?rstm6
  (try simp only [Act.put, tC, tD, tE])
  refine tA 6 ⟨some 9, .fieldAddr 125 (.tmp 8) 0, 0, "parts.go:55", #[⟨5, .data⟩], none⟩ ?vstm7 ?rstm7
  (try simp only [Act.put, tC, tD, tE])
  refine tA 7 ⟨some 10, .fieldAddr 121 (.tmp 9) 0, 0, "parts.go:55", #[⟨6, .data⟩], none⟩ ?vstm8 ?rstm8
  (try simp only [Act.put, tC, tD, tE])
  refine tA 8 ⟨some 11, .load 3 (.tmp 10), 3, "parts.go:55", #[⟨7, .data⟩], none⟩ ?vstm9 ?rstm9
  (try simp only [Act.put, tC, tD, tE])
  refine tA 9 ⟨some 12, .convert 3 35 (.tmp 11), 35, "parts.go:55", #[⟨8, .data⟩], none⟩ ?vstm10 ?rstm10
  (try simp only [Act.put, tC, tD, tE])
  refine tA 10 ⟨some 13, .binOp .add 35 (.const (.int .u32 64)) (.tmp 12) 35, 35, "parts.go:55", #[⟨9, .data⟩], none⟩ ?vstm11 ?rstm11
  (try simp only [Act.put, tC, tD, tE])
  refine tA 11 ⟨some 14, .load 32 (.tmp 1), 32, "parts.go:55", #[], none⟩ ?vstm12 ?rstm12
  (try simp only [Act.put, tC, tD, tE])
  refine tA 12 ⟨some 15, .nilCheck (.tmp 14), 0, "parts.go:55", #[⟨11, .data⟩], none⟩ ?vstm13 ?rstm13
  (try simp only [Act.put, tC, tD, tE])
  refine tA 13 ⟨some 16, .fieldAddr 125 (.tmp 15) 0, 0, "parts.go:55", #[⟨12, .data⟩], none⟩ ?vstm14 ?rstm14
  (try simp only [Act.put, tC, tD, tE])
  refine tA 14 ⟨some 17, .fieldAddr 121 (.tmp 16) 1, 0, "parts.go:55", #[⟨13, .data⟩], none⟩ ?vstm15 ?rstm15
  (try simp only [Act.put, tC, tD, tE])
  refine tA 15 ⟨some 18, .load 35 (.tmp 17), 35, "parts.go:55", #[⟨14, .data⟩], none⟩ ?vstm16 ?rstm16
  (try simp only [Act.put, tC, tD, tE])
  refine tA 16 ⟨some 19, .convert 35 23 (.tmp 18), 23, "parts.go:55", #[⟨15, .data⟩], none⟩ ?vstm17 ?rstm17
  (try simp only [Act.put, tC, tD, tE])
  refine wpAnyH_ready (rs := [17]) (by kernel_rfl) (by simp) ?_
  refine AllReadyH.cons (o := ⟨some 20, .call ⟨.value (.func 114), #[.tmp 6, .tmp 13, .tmp 19], #[39, 35, 23]⟩, 23, "parts.go:55", #[⟨3, .data⟩, ⟨10, .data⟩, ⟨16, .data⟩], none⟩) rfl (fun Kq hKq => ?_) AllReadyH.nil
  go_simp
  (refine HST.out.mono ?_; rintro e' w1 ⟨rfl, X1, h1, hc1⟩)
  refine hKq.out _ _ ?_ (fun hHeld => ?_)
  · exact ⟨by rw [← hc1]; exact h1.c.1, cell_row ((H.out.pgq h1).blk k HXR.out) 0, cell_row ((H.out.pgq h1).blk 0 HBR.out) 0, cell_row ((H.out.pgq h1).blk 0 HBR.out) 1⟩
  clear hKq Kq
  (try simp only [Act.put, tC, tD, tE])
  refine wpAnyH_done (by kernel_rfl) ?_ _
  go_end0
  exact ⟨rfl, X1, H.out.pgq h1⟩
def entD (D : Pd) : S10.Ent := ⟨(D.t : Int), (D.k : Int), (D.z : Int)⟩
def queM (M : Sd) (D : Pd) (pb : Int) (pi : Nat) : Sd := ((M.prep (2 * D.t)).putq pb pi (qAt M pb pi ++ [entD D])).note ⟨((M.n + (M.pn + 1) : Nat) : Int), (D.t : Int), 1, (D.k : Int), -1, 0, 0⟩
theorem queue1_ {XB k pi : Nat} (h : Wq w0 w base WB M r j l X) (hb : l[0]? = some (B, pkO D pb (pi : Int) p b o)) (hx : l[k]? = some (XB, xO B)) (ht : D.t < 64) (hn : M.n ≤ 900000000) (hpn : M.pn ≤ 900000000) (hT : Tab w0) (hT1 : 0 < base)
    (hpb : S10.InI pb) (hpi : pi < (M.m pb).length) (hq : (qAt M pb pi).length ≤ 900) (hnl : M.nD.length ≤ 90000) :
    Calls Tryz.prog 214 #[Pw WB, Pw XB] w fun e' w' => e' = .returned (.tuple #[]) ∧ ∃ X', Wq w0 w' base WB (queM M D pb pi) r j l X' := by
  have y0 : w.cell? ⟨XB, 0, none⟩ = some (Pw B) := cell_row (h.blk k hx) 0
  have c0 : w.cell? ⟨B, 0, none⟩ = some (.int .i64 (D.t : Int)) := cell_row (h.blk 0 hb) 0
  have hp2 := h.pg.c.2.1
  obtain ⟨pB, hpB⟩ : ∃ pB, X.pB = pB := ⟨_, rfl⟩
  rw [hpB] at hp2
  have hpr := (h.new (Below.refl _ w).drew).pg.prep (i := 2 * D.t) (by omega) (by omega)
  rw [hpB] at hpr
  have HL := Lib.hid (lotc (W := w.drew) c0 ht); have HPR := Lib.hid hpr; have HPB := Lib.hid hpB
  have H := Lib.hid h; have HBR := Lib.hid hb; have HXR := Lib.hid hx
  have HK := Lib.hid (And.intro hn (And.intro hpn (And.intro hT (And.intro hT1 (And.intro hpb (And.intro hpi (And.intro hq hnl)))))))
  clear h hb hx ht hn hpn hT hT1 hpb hpi hq hnl hpB hpr
  go_enter Tryz.func214, Tryz.ntmps214
  refine wp_seq ?_
  refine wp_region_held_drew (S := fun w' => w'.cell? ⟨WB, 2, none⟩ = some (Pw pB) ∧ w'.cell? ⟨XB, 0, none⟩ = some (Pw B) ∧ w'.cell? ⟨B, 0, none⟩ = some (.int .i64 (D.t : Int))) (by kernel_rfl) ?_ (fun hHeld => ?_)
  · exact ⟨hp2, cell_row ((H.out.new (Below.refl _ _).drew).blk k HXR.out) 0, cell_row ((H.out.new (Below.refl _ _).drew).blk 0 HBR.out) 0⟩
  refine tA 0 ⟨some 4, .move (.tmp 0), 24, "parts.go:62", #[], none⟩ ?vqam1 ?rqam1
  (try simp only [Act.put, tC, tD, tE])
  refine tA 1 ⟨some 5, .nilCheck (.tmp 4), 0, "parts.go:62", #[⟨0, .data⟩], none⟩ ?vqam2 ?rqam2
  (try simp only [Act.put, tC, tD, tE])
  refine tA 2 ⟨some 6, .fieldAddr 47 (.tmp 5) 2, 0, "parts.go:62", #[⟨1, .data⟩], none⟩ ?vqam3 ?rqam3
  (try simp only [Act.put, tC, tD, tE])
  refine tA 3 ⟨some 7, .load 41 (.tmp 6), 41, "parts.go:62", #[⟨2, .data⟩], none⟩ ?vqam4 ?rqam4
  (try simp only [Act.put, tC, tD, tE])
  refine tA 4 ⟨some 8, .load 32 (.tmp 1), 32, "parts.go:62", #[], none⟩ ?vqam5 ?rqam5
  (try simp only [Act.put, tC, tD, tE])
  refine wpAnyH_ready (rs := [5]) (by kernel_rfl) (by simp) ?_
  refine AllReadyH.cons (o := ⟨some 9, .call ⟨.value (.func 216), #[.tmp 8], #[32]⟩, 3, "parts.go:62", #[⟨4, .data⟩], none⟩) rfl (fun Kq hKq => ?_) AllReadyH.nil
  go_simp
  (refine (HL.out).mono ?_; rintro e' w1 ⟨rfl, rfl⟩)
  refine hKq.out _ _ ?_ (fun hHeld => ?_)
  · exact hHeld
  clear hKq Kq
  (try simp only [Act.put, tC, tD, tE])
  refine wpAnyH_ready (rs := [6]) (by kernel_rfl) (by simp) ?_
  refine AllReadyH.cons (o := ⟨some 10, .call ⟨.value (.func 215), #[.tmp 7, .tmp 9], #[41, 3]⟩, 0, "parts.go:62", #[⟨3, .data⟩, ⟨5, .data⟩, ⟨5, .chain⟩], none⟩) rfl (fun Kq hKq => ?_) AllReadyH.nil
  go_simp
  (refine HPR.out.mono ?_; rintro e' w2 ⟨rfl, X2, h2, hpb2⟩; have H2 := Lib.hid (H.out.pgq h2); have HP2 := Lib.hid hpb2; clear h2 hpb2)
  refine hKq.out _ _ ?_ (fun hHeld => ?_)
  · exact ⟨by rw [← HP2.out]; exact H2.out.pg.c.2.1, cell_row (H2.out.blk k HXR.out) 0, cell_row (H2.out.blk 0 HBR.out) 0⟩
  clear hKq Kq
  (try simp only [Act.put, tC, tD, tE])
  refine wpAnyH_done (by kernel_rfl) ?_ _
  clear hHeld y0 c0 hp2
  obtain ⟨ts, hts⟩ : ∃ ts, X2.ts = ts := ⟨_, rfl⟩
  obtain ⟨q, hq⟩ : ∃ q, q = qAt M pb pi := ⟨_, rfl⟩
  have HTS := Lib.hid hts; have HQL := Lib.hid hq
  have hqq : ∀ W, Below w2.heap.size w2 W → Calls Tryz.prog 46 #[ts, .agg #[.int .i64 pb, .int .i64 (pi : Int)]] W fun e w' => ∃ A', e = .returned (.slice A' q.length q.length) ∧ S10.RowE w' W.heap.size (.slice A' q.length q.length) q ∧ Below W.heap.size W w' := fun W hW => by
    have := (H2.out.new hW).pg.queue (b := pb) HK.out.2.2.2.2.1 (i := pi) HK.out.2.2.2.2.2.1 (by have := HK.out.2.2.2.2.2.2.1; show (qAt M pb pi).length ≤ _; omega)
    rw [HTS.out] at this
    rw [HQL.out]
    exact this
  have HQ := Lib.hid hqq
  clear hts hq hqq
  go_upto_region 1 with fail
  refine wp_region_held_drew (S := fun w' => w'.cell? ⟨WB, 4, none⟩ = some ts ∧ w'.cell? ⟨XB, 0, none⟩ = some (Pw B) ∧ w'.cell? ⟨B, 0, none⟩ = some (.int .i64 (D.t : Int)) ∧ w'.cell? ⟨B, 1, none⟩ = some (.int .u32 (D.k : Int)) ∧ w'.cell? ⟨B, 2, none⟩ = some (.int .u64 (D.z : Int)) ∧ w'.cell? ⟨B, 6, none⟩ = some (.int .i64 pb) ∧ w'.cell? ⟨B, 7, none⟩ = some (.int .i64 (pi : Int))) (by kernel_rfl) ?_ (fun hHeld => ?_)
  · exact ⟨by rw [← HTS.out]; exact (H2.out.new (Below.refl _ _).drew).pg.k4, cell_row ((H2.out.new (Below.refl _ _).drew).blk k HXR.out) 0, cell_row ((H2.out.new (Below.refl _ _).drew).blk 0 HBR.out) 0, cell_row ((H2.out.new (Below.refl _ _).drew).blk 0 HBR.out) 1, cell_row ((H2.out.new (Below.refl _ _).drew).blk 0 HBR.out) 2, cell_row ((H2.out.new (Below.refl _ _).drew).blk 0 HBR.out) 6, cell_row ((H2.out.new (Below.refl _ _).drew).blk 0 HBR.out) 7⟩
  refine tA 0 ⟨some 11, .move (.tmp 0), 24, "parts.go:63", #[], none⟩ ?vqbm1 ?rqbm1
  (try simp only [Act.put, tC, tD, tE])
  refine tA 1 ⟨some 12, .nilCheck (.tmp 11), 0, "parts.go:63", #[⟨0, .data⟩], none⟩ ?vqbm2 ?rqbm2
  (try simp only [Act.put, tC, tD, tE])
  refine tA 2 ⟨some 13, .fieldAddr 47 (.tmp 12) 4, 0, "parts.go:63", #[⟨1, .data⟩], none⟩ ?vqbm3 ?rqbm3
  (try simp only [Act.put, tC, tD, tE])
  refine tA 3 ⟨some 14, .load 43 (.tmp 13), 43, "parts.go:63", #[⟨2, .data⟩], none⟩ ?vqbm4 ?rqbm4
  (try simp only [Act.put, tC, tD, tE])
  refine tA 4 ⟨some 15, .load 32 (.tmp 1), 32, "parts.go:63", #[], none⟩ ?vqbm5 ?rqbm5
  (try simp only [Act.put, tC, tD, tE])
  refine tA 5 ⟨some 16, .nilCheck (.tmp 15), 0, "parts.go:63", #[⟨4, .data⟩], none⟩ ?vqbm6 ?rqbm6
  (try simp only [Act.put, tC, tD, tE])
  refine tA 6 ⟨some 17, .fieldAddr 125 (.tmp 16) 3, 0, "parts.go:63", #[⟨5, .data⟩], none⟩ ?vqbm7 ?rqbm7
  (try simp only [Act.put, tC, tD, tE])
  refine tA 7 ⟨some 18, .load 97 (.tmp 17), 97, "parts.go:63", #[⟨6, .data⟩], none⟩ ?vqbm8 ?rqbm8
  (try simp only [Act.put, tC, tD, tE])
  refine tA 9 ⟨some 20, .load 32 (.tmp 1), 32, "parts.go:63", #[], none⟩ ?vqbm9 ?rqbm9
  (try simp only [Act.put, tC, tD, tE])
  refine tA 10 ⟨some 21, .nilCheck (.tmp 20), 0, "parts.go:63", #[⟨9, .data⟩], none⟩ ?vqbm10 ?rqbm10
  (try simp only [Act.put, tC, tD, tE])
  refine tA 11 ⟨some 22, .fieldAddr 125 (.tmp 21) 0, 0, "parts.go:63", #[⟨10, .data⟩], none⟩ ?vqbm11 ?rqbm11
  (try simp only [Act.put, tC, tD, tE])
  refine tA 12 ⟨some 23, .load 121 (.tmp 22), 121, "parts.go:63", #[⟨11, .data⟩], none⟩ ?vqbm12 ?rqbm12
  (try simp only [Act.put, tC, tD, tE])
  refine tA 14 ⟨some 25, .load 32 (.tmp 1), 32, "parts.go:63", #[], none⟩ ?vqbm13 ?rqbm13
  (try simp only [Act.put, tC, tD, tE])
  refine tA 15 ⟨some 26, .nilCheck (.tmp 25), 0, "parts.go:63", #[⟨14, .data⟩], none⟩ ?vqbm14 ?rqbm14
  (try simp only [Act.put, tC, tD, tE])
  refine tA 16 ⟨some 27, .fieldAddr 125 (.tmp 26) 0, 0, "parts.go:63", #[⟨15, .data⟩], none⟩ ?vqbm15 ?rqbm15
  (try simp only [Act.put, tC, tD, tE])
  refine tA 17 ⟨some 28, .fieldAddr 121 (.tmp 27) 1, 0, "parts.go:63", #[⟨16, .data⟩], none⟩ ?vqbm16 ?rqbm16
  (try simp only [Act.put, tC, tD, tE])
  refine tA 18 ⟨some 29, .load 35 (.tmp 28), 35, "parts.go:63", #[⟨17, .data⟩], none⟩ ?vqbm17 ?rqbm17
  (try simp only [Act.put, tC, tD, tE])
  apply merge2 (S := fun (A' : Option Addr) (NB : Nat) (W : World) => Below w2.heap.size w2 W ∧ S10.Rd W W.heap.size A' (S10.flat q) ∧ S10.Rd W W.heap.size (some ⟨NB, 0, none⟩) (S10.flat [entD D]))
  · intro REST
    refine wpAnyH_ready (rs := [8, 13]) (by kernel_rfl) (by simp) ?_
    refine AllReadyH.cons (o := ⟨some 19, .call ⟨.value (.func 46), #[.tmp 14, .tmp 18], #[43, 97]⟩, 106, "parts.go:63", #[⟨3, .data⟩, ⟨7, .data⟩], none⟩) rfl (fun Kq hKq => ?_) ?_
    · go_simp
      (first | (refine (HQ.out _ (Below.refl _ _).drew).mono ?_; rintro e' w3 ⟨A3, rfl, hr3, hb3⟩; have HBQ := Lib.hid ((Below.refl _ _).drew.trans hb3); have HRQ := Lib.hid hr3; have HWA := Lib.hid (H2.out.new HBQ.out); clear hr3 hb3) | (refine (HQ.out _ HBE.out).mono ?_; rintro e' w4 ⟨A3, rfl, hr3, hb3⟩; have HBQ := Lib.hid (HBE.out.trans (hb3.mono HBE.out.size)); have HRQ := Lib.hid hr3; have HB3 := Lib.hid hb3; have HWB := Lib.hid (H2.out.new HBQ.out); clear hr3 hb3))
      refine hKq.out _ _ ?_ (fun hHeld => ?_)
      · first | (exact ⟨by rw [← HTS.out]; exact HWA.out.pg.k4, cell_row (HWA.out.blk k HXR.out) 0, cell_row (HWA.out.blk 0 HBR.out) 0, cell_row (HWA.out.blk 0 HBR.out) 1, cell_row (HWA.out.blk 0 HBR.out) 2, cell_row (HWA.out.blk 0 HBR.out) 6, cell_row (HWA.out.blk 0 HBR.out) 7⟩) | (exact ⟨by rw [← HTS.out]; exact HWB.out.pg.k4, cell_row (HWB.out.blk k HXR.out) 0, cell_row (HWB.out.blk 0 HBR.out) 0, cell_row (HWB.out.blk 0 HBR.out) 1, cell_row (HWB.out.blk 0 HBR.out) 2, cell_row (HWB.out.blk 0 HBR.out) 6, cell_row (HWB.out.blk 0 HBR.out) 7⟩)
      clear hKq Kq
      (try simp only [Act.put, tC, tD, tE])
      refine wpAnyH_ready (rs := [13]) (by kernel_rfl) (by simp) ?_
      refine AllReadyH.cons (o := ⟨some 24, .buildSlice 106 1 #[(0, .tmp 23)], 106, "parts.go:63", #[⟨12, .data⟩], none⟩) rfl (fun Kq hKq => ?_) AllReadyH.nil
      go_simp
      refine hKq.out _ _ ?_ (fun hHeld => ?_)
      · first | (exact ⟨by rw [← HTS.out]; exact (HWA.out.new (below1 _ _)).pg.k4, cell_row ((HWA.out.new (below1 _ _)).blk k HXR.out) 0, cell_row ((HWA.out.new (below1 _ _)).blk 0 HBR.out) 0, cell_row ((HWA.out.new (below1 _ _)).blk 0 HBR.out) 1, cell_row ((HWA.out.new (below1 _ _)).blk 0 HBR.out) 2, cell_row ((HWA.out.new (below1 _ _)).blk 0 HBR.out) 6, cell_row ((HWA.out.new (below1 _ _)).blk 0 HBR.out) 7⟩) | (exact ⟨by rw [← HTS.out]; exact ((H2.out.new (Below.refl _ _).drew).new (below1 _ _)).pg.k4, cell_row (((H2.out.new (Below.refl _ _).drew).new (below1 _ _)).blk k HXR.out) 0, cell_row (((H2.out.new (Below.refl _ _).drew).new (below1 _ _)).blk 0 HBR.out) 0, cell_row (((H2.out.new (Below.refl _ _).drew).new (below1 _ _)).blk 0 HBR.out) 1, cell_row (((H2.out.new (Below.refl _ _).drew).new (below1 _ _)).blk 0 HBR.out) 2, cell_row (((H2.out.new (Below.refl _ _).drew).new (below1 _ _)).blk 0 HBR.out) 6, cell_row (((H2.out.new (Below.refl _ _).drew).new (below1 _ _)).blk 0 HBR.out) 7⟩)
      clear hKq Kq
      (try simp only [Act.put, tC, tD, tE])
      (first | (have HBE := Lib.hid (HBQ.out.trans ((below1 w3 (.cells #[.int .i64 (D.t : Int), .int .u32 (D.k : Int), .int .u64 (D.z : Int)] 121)).mono HBQ.out.size)); have HRE := Lib.hid (S10.rd_one w3 (entD D) 121); have HRQ2 := Lib.hid (HRQ.out.new (below1 w3 (.cells #[.int .i64 (D.t : Int), .int .u32 (D.k : Int), .int .u64 (D.z : Int)] 121)))) | (have HBE := Lib.hid ((Below.refl _ w2).drew.trans (below1 w2.drew (.cells #[.int .i64 (D.t : Int), .int .u32 (D.k : Int), .int .u64 (D.z : Int)] 121))); have HRE := Lib.hid (S10.rd_one w2.drew (entD D) 121)))
      (have g1 := HBE.out; have g2 := HRQ2.out.rd; have g3 : S10.Rd (w3.alloc (.cells #[.int .i64 (D.t : Int), .int .u32 (D.k : Int), .int .u64 (D.z : Int)] 121)) (w3.alloc (.cells #[.int .i64 (D.t : Int), .int .u32 (D.k : Int), .int .u64 (D.z : Int)] 121)).heap.size (some ⟨w3.heap.size, 0, none⟩) (S10.flat [entD D]) := HRE.out.more (show w3.heap.size + 1 ≤ (w3.alloc (.cells #[.int .i64 (D.t : Int), .int .u32 (D.k : Int), .int .u64 (D.z : Int)] 121)).heap.size by simp); generalize w3.alloc (.cells #[.int .i64 (D.t : Int), .int .u32 (D.k : Int), .int .u64 (D.z : Int)] 121) = W6 at g1 g2 g3 ⊢; generalize w3.heap.size = NB6 at g3 ⊢; exact REST _ _ _ ⟨g1, g2, g3⟩)
    refine AllReadyH.cons (o := ⟨some 24, .buildSlice 106 1 #[(0, .tmp 23)], 106, "parts.go:63", #[⟨12, .data⟩], none⟩) rfl (fun Kq hKq => ?_) AllReadyH.nil
    go_simp
    refine hKq.out _ _ ?_ (fun hHeld => ?_)
    · first | (exact ⟨by rw [← HTS.out]; exact (HWA.out.new (below1 _ _)).pg.k4, cell_row ((HWA.out.new (below1 _ _)).blk k HXR.out) 0, cell_row ((HWA.out.new (below1 _ _)).blk 0 HBR.out) 0, cell_row ((HWA.out.new (below1 _ _)).blk 0 HBR.out) 1, cell_row ((HWA.out.new (below1 _ _)).blk 0 HBR.out) 2, cell_row ((HWA.out.new (below1 _ _)).blk 0 HBR.out) 6, cell_row ((HWA.out.new (below1 _ _)).blk 0 HBR.out) 7⟩) | (exact ⟨by rw [← HTS.out]; exact ((H2.out.new (Below.refl _ _).drew).new (below1 _ _)).pg.k4, cell_row (((H2.out.new (Below.refl _ _).drew).new (below1 _ _)).blk k HXR.out) 0, cell_row (((H2.out.new (Below.refl _ _).drew).new (below1 _ _)).blk 0 HBR.out) 0, cell_row (((H2.out.new (Below.refl _ _).drew).new (below1 _ _)).blk 0 HBR.out) 1, cell_row (((H2.out.new (Below.refl _ _).drew).new (below1 _ _)).blk 0 HBR.out) 2, cell_row (((H2.out.new (Below.refl _ _).drew).new (below1 _ _)).blk 0 HBR.out) 6, cell_row (((H2.out.new (Below.refl _ _).drew).new (below1 _ _)).blk 0 HBR.out) 7⟩)
    clear hKq Kq
    (try simp only [Act.put, tC, tD, tE])
    (first | (have HBE := Lib.hid (HBQ.out.trans ((below1 w3 (.cells #[.int .i64 (D.t : Int), .int .u32 (D.k : Int), .int .u64 (D.z : Int)] 121)).mono HBQ.out.size)); have HRE := Lib.hid (S10.rd_one w3 (entD D) 121); have HRQ2 := Lib.hid (HRQ.out.new (below1 w3 (.cells #[.int .i64 (D.t : Int), .int .u32 (D.k : Int), .int .u64 (D.z : Int)] 121)))) | (have HBE := Lib.hid ((Below.refl _ w2).drew.trans (below1 w2.drew (.cells #[.int .i64 (D.t : Int), .int .u32 (D.k : Int), .int .u64 (D.z : Int)] 121))); have HRE := Lib.hid (S10.rd_one w2.drew (entD D) 121)))
    refine wpAnyH_ready (rs := [8]) (by kernel_rfl) (by simp) ?_
    refine AllReadyH.cons (o := ⟨some 19, .call ⟨.value (.func 46), #[.tmp 14, .tmp 18], #[43, 97]⟩, 106, "parts.go:63", #[⟨3, .data⟩, ⟨7, .data⟩], none⟩) rfl (fun Kq hKq => ?_) AllReadyH.nil
    go_simp
    (first | (refine (HQ.out _ (Below.refl _ _).drew).mono ?_; rintro e' w3 ⟨A3, rfl, hr3, hb3⟩; have HBQ := Lib.hid ((Below.refl _ _).drew.trans hb3); have HRQ := Lib.hid hr3; have HWA := Lib.hid (H2.out.new HBQ.out); clear hr3 hb3) | (refine (HQ.out _ HBE.out).mono ?_; rintro e' w4 ⟨A3, rfl, hr3, hb3⟩; have HBQ := Lib.hid (HBE.out.trans (hb3.mono HBE.out.size)); have HRQ := Lib.hid hr3; have HB3 := Lib.hid hb3; have HWB := Lib.hid (H2.out.new HBQ.out); clear hr3 hb3))
    refine hKq.out _ _ ?_ (fun hHeld => ?_)
    · first | (exact ⟨by rw [← HTS.out]; exact HWA.out.pg.k4, cell_row (HWA.out.blk k HXR.out) 0, cell_row (HWA.out.blk 0 HBR.out) 0, cell_row (HWA.out.blk 0 HBR.out) 1, cell_row (HWA.out.blk 0 HBR.out) 2, cell_row (HWA.out.blk 0 HBR.out) 6, cell_row (HWA.out.blk 0 HBR.out) 7⟩) | (exact ⟨by rw [← HTS.out]; exact HWB.out.pg.k4, cell_row (HWB.out.blk k HXR.out) 0, cell_row (HWB.out.blk 0 HBR.out) 0, cell_row (HWB.out.blk 0 HBR.out) 1, cell_row (HWB.out.blk 0 HBR.out) 2, cell_row (HWB.out.blk 0 HBR.out) 6, cell_row (HWB.out.blk 0 HBR.out) 7⟩)
    clear hKq Kq
    (try simp only [Act.put, tC, tD, tE])
    (have g1 := HBQ.out; have g2 := HRQ.out.rd; have g3 : S10.Rd w4 w4.heap.size (some ⟨w2.heap.size, 0, none⟩) (S10.flat [entD D]) := (HRE.out.below HB3.out (by simp)).more (by have := HB3.out.size; simp at this; simp; omega); generalize w2.heap.size = NB6 at g3 ⊢; exact REST _ _ _ ⟨g1, g2, g3⟩)
  intro A5 NB5 W5 hT
  have HT := Lib.hid hT
  have hHeld : (fun w' => w'.cell? ⟨WB, 4, none⟩ = some ts ∧ w'.cell? ⟨XB, 0, none⟩ = some (Pw B) ∧ w'.cell? ⟨B, 0, none⟩ = some (.int .i64 (D.t : Int)) ∧ w'.cell? ⟨B, 1, none⟩ = some (.int .u32 (D.k : Int)) ∧ w'.cell? ⟨B, 2, none⟩ = some (.int .u64 (D.z : Int)) ∧ w'.cell? ⟨B, 6, none⟩ = some (.int .i64 pb) ∧ w'.cell? ⟨B, 7, none⟩ = some (.int .i64 (pi : Int))) W5 := ⟨by rw [← HTS.out]; exact (H2.out.new HT.out.1).pg.k4, cell_row ((H2.out.new HT.out.1).blk k HXR.out) 0, cell_row ((H2.out.new HT.out.1).blk 0 HBR.out) 0, cell_row ((H2.out.new HT.out.1).blk 0 HBR.out) 1, cell_row ((H2.out.new HT.out.1).blk 0 HBR.out) 2, cell_row ((H2.out.new HT.out.1).blk 0 HBR.out) 6, cell_row ((H2.out.new HT.out.1).blk 0 HBR.out) 7⟩
  clear hT
  refine wpAnyH_ready (rs := [19]) (by kernel_rfl) (by simp) ?_
  refine AllReadyH.cons (o := ⟨some 30, .call ⟨.value (.func 217), #[.tmp 19, .tmp 24, .tmp 29], #[106, 106, 35]⟩, 106, "parts.go:63", #[⟨8, .data⟩, ⟨13, .data⟩, ⟨18, .data⟩, ⟨8, .chain⟩], none⟩) rfl (fun Kq hKq => ?_) AllReadyH.nil
  go_simp
  (refine (S10.moved_any (D := q) (M := [entD D]) _ _ (D.k : Int) HT.out.2.1 HT.out.2.2 (Nat.le_refl _) (Nat.le_refl _) (by rw [HQL.out]; have := HK.out.2.2.2.2.2.2.1; omega) (by show 1 ≤ 2000; omega)).mono ?_; rintro e' w6 ⟨A6, rfl, hr6, hb6⟩; have HB6 := Lib.hid (HT.out.1.trans (hb6.mono HT.out.1.size)); have HR6 := Lib.hid hr6; clear hr6 hb6)
  refine hKq.out _ _ ?_ (fun hHeld => ?_)
  · exact ⟨by rw [← HTS.out]; exact (H2.out.new HB6.out).pg.k4, cell_row ((H2.out.new HB6.out).blk k HXR.out) 0, cell_row ((H2.out.new HB6.out).blk 0 HBR.out) 0, cell_row ((H2.out.new HB6.out).blk 0 HBR.out) 1, cell_row ((H2.out.new HB6.out).blk 0 HBR.out) 2, cell_row ((H2.out.new HB6.out).blk 0 HBR.out) 6, cell_row ((H2.out.new HB6.out).blk 0 HBR.out) 7⟩
  clear hKq Kq
  (try simp only [Act.put, tC, tD, tE])
  refine tA 20 ⟨some 3, .assign (.tmp 30), 106, "parts.go:63", #[⟨19, .data⟩, ⟨19, .chain⟩, ⟨0, .phase⟩, ⟨1, .phase⟩, ⟨2, .phase⟩, ⟨3, .phase⟩, ⟨4, .phase⟩, ⟨5, .phase⟩, ⟨6, .phase⟩, ⟨7, .phase⟩, ⟨8, .phase⟩, ⟨9, .phase⟩, ⟨10, .phase⟩, ⟨11, .phase⟩, ⟨12, .phase⟩, ⟨13, .phase⟩, ⟨14, .phase⟩, ⟨15, .phase⟩, ⟨16, .phase⟩, ⟨17, .phase⟩, ⟨18, .phase⟩, ⟨19, .phase⟩], none⟩ ?vqbm19 ?rqbm19
  (try simp only [Act.put, tC, tD, tE])
  refine wpAnyH_done (by kernel_rfl) ?_ _
  clear hHeld
  have H6 := Lib.hid (H2.out.new HB6.out)
  have hml : S10.movedL q [entD D] (D.k : Int) = qAt M pb pi ++ [entD D] := by rw [HQL.out]; rfl
  have hput : Calls Tryz.prog 58 #[ts, .agg #[.int .i64 pb, .int .i64 (pi : Int)], .slice A6 (S10.movedL q [entD D] (D.k : Int)).length (S10.movedL q [entD D] (D.k : Int)).length] w6.drew fun e w' => e = .returned (.bool true) ∧ ∃ X', Pg w0 w' base WB ((M.prep (2 * D.t)).putq pb pi (qAt M pb pi ++ [entD D])) (r.set j (rowsP l)) X' ∧ X'.ts = ts := by
    have := (H6.out.new (Below.refl _ _).drew).pg.put (b := pb) HK.out.2.2.2.2.1 (i := pi) HK.out.2.2.2.2.2.1 (D := S10.movedL q [entD D] (D.k : Int)) (c0 := (S10.movedL q [entD D] (D.k : Int)).length) HR6.out.rd (Nat.le_refl _) (by rw [hml, List.length_append]; have := HK.out.2.2.2.2.2.2.1; show _ + 1 ≤ _; omega)
    rw [HTS.out] at this
    rw [← hml]
    exact this
  have HPUT := Lib.hid hput
  clear hput hml
  generalize (S10.movedL q [entD D] (D.k : Int)).length = nl at *
  go_upto_region 2 with fail
  refine wp_region_held_drew (S := fun w' => w'.cell? ⟨WB, 4, none⟩ = some ts ∧ w'.cell? ⟨XB, 0, none⟩ = some (Pw B) ∧ w'.cell? ⟨B, 6, none⟩ = some (.int .i64 pb) ∧ w'.cell? ⟨B, 7, none⟩ = some (.int .i64 (pi : Int))) (by kernel_rfl) ?_ (fun hHeld => ?_)
  · exact ⟨by rw [← HTS.out]; exact (H6.out.new (Below.refl _ _).drew).pg.k4, cell_row ((H6.out.new (Below.refl _ _).drew).blk k HXR.out) 0, cell_row ((H6.out.new (Below.refl _ _).drew).blk 0 HBR.out) 6, cell_row ((H6.out.new (Below.refl _ _).drew).blk 0 HBR.out) 7⟩
  refine tA 0 ⟨some 31, .move (.tmp 0), 24, "parts.go:64", #[], none⟩ ?vqcm1 ?rqcm1
  (try simp only [Act.put, tC, tD, tE])
  refine tA 1 ⟨some 32, .nilCheck (.tmp 31), 0, "parts.go:64", #[⟨0, .data⟩], none⟩ ?vqcm2 ?rqcm2
  (try simp only [Act.put, tC, tD, tE])
  refine tA 2 ⟨some 33, .fieldAddr 47 (.tmp 32) 4, 0, "parts.go:64", #[⟨1, .data⟩], none⟩ ?vqcm3 ?rqcm3
  (try simp only [Act.put, tC, tD, tE])
  refine tA 3 ⟨some 34, .load 43 (.tmp 33), 43, "parts.go:64", #[⟨2, .data⟩], none⟩ ?vqcm4 ?rqcm4
  (try simp only [Act.put, tC, tD, tE])
  refine tA 4 ⟨some 35, .load 32 (.tmp 1), 32, "parts.go:64", #[], none⟩ ?vqcm5 ?rqcm5
  (try simp only [Act.put, tC, tD, tE])
  refine tA 5 ⟨some 36, .nilCheck (.tmp 35), 0, "parts.go:64", #[⟨4, .data⟩], none⟩ ?vqcm6 ?rqcm6
  (try simp only [Act.put, tC, tD, tE])
  refine tA 6 ⟨some 37, .fieldAddr 125 (.tmp 36) 3, 0, "parts.go:64", #[⟨5, .data⟩], none⟩ ?vqcm7 ?rqcm7
  (try simp only [Act.put, tC, tD, tE])
  refine tA 7 ⟨some 38, .load 97 (.tmp 37), 97, "parts.go:64", #[⟨6, .data⟩], none⟩ ?vqcm8 ?rqcm8
  (try simp only [Act.put, tC, tD, tE])
  refine tA 8 ⟨some 39, .move (.tmp 3), 106, "parts.go:64", #[], none⟩ ?vqcm9 ?rqcm9
  (try simp only [Act.put, tC, tD, tE])
  refine wpAnyH_ready (rs := [9]) (by kernel_rfl) (by simp) ?_
  refine AllReadyH.cons (o := ⟨some 40, .call ⟨.value (.func 58), #[.tmp 34, .tmp 38, .tmp 39], #[43, 97, 106]⟩, 4, "parts.go:64", #[⟨3, .data⟩, ⟨7, .data⟩, ⟨8, .data⟩], none⟩) rfl (fun Kq hKq => ?_) AllReadyH.nil
  go_simp
  (refine HPUT.out.mono ?_; rintro e' w7 ⟨rfl, X7, h7, hts⟩; have H7 := Lib.hid (H6.out.pgq h7); have HTS7 := Lib.hid hts; clear h7 hts)
  refine hKq.out _ _ ?_ (fun hHeld => ?_)
  · exact ⟨by rw [← HTS7.out]; exact H7.out.pg.k4, cell_row (H7.out.blk k HXR.out) 0, cell_row (H7.out.blk 0 HBR.out) 6, cell_row (H7.out.blk 0 HBR.out) 7⟩
  clear hKq Kq
  (try simp only [Act.put, tC, tD, tE])
  refine wpAnyH_done (by kernel_rfl) ?_ _
  clear hHeld
  have hnt := (H7.out.new (Below.refl _ _).drew).pg.note (t := (D.t : Int)) (a := (D.k : Int)) (k := 1) (by have := HK.out.1; show M.n ≤ _; omega) (by have := HK.out.2.1; show M.pn + 1 ≤ _; omega) (by have := HK.out.2.2.2.2.2.2.2; show M.nD.length ≤ _; omega) (HK.out.2.2.1.below ((H7.out.new (Below.refl _ _).drew).pg.bl) HK.out.2.2.2.1) (by omega)
  have HNT := Lib.hid hnt
  clear hnt
  go_upto_region 3 with fail
  refine wp_region_held_drew (S := fun w' => w'.cell? ⟨XB, 0, none⟩ = some (Pw B) ∧ w'.cell? ⟨B, 0, none⟩ = some (.int .i64 (D.t : Int)) ∧ w'.cell? ⟨B, 1, none⟩ = some (.int .u32 (D.k : Int))) (by kernel_rfl) ?_ (fun hHeld => ?_)
  · exact ⟨cell_row ((H7.out.new (Below.refl _ _).drew).blk k HXR.out) 0, cell_row ((H7.out.new (Below.refl _ _).drew).blk 0 HBR.out) 0, cell_row ((H7.out.new (Below.refl _ _).drew).blk 0 HBR.out) 1⟩
  refine tA 0 ⟨some 41, .move (.tmp 0), 24, "parts.go:65", #[], none⟩ ?vqdm1 ?rqdm1
  (try simp only [Act.put, tC, tD, tE])
  refine tA 1 ⟨some 42, .load 32 (.tmp 1), 32, "parts.go:65", #[], none⟩ ?vqdm2 ?rqdm2
  (try simp only [Act.put, tC, tD, tE])
  refine tA 2 ⟨some 43, .nilCheck (.tmp 42), 0, "parts.go:65", #[⟨1, .data⟩], none⟩ ?vqdm3 ?rqdm3
  (try simp only [Act.put, tC, tD, tE])
  refine tA 3 ⟨some 44, .fieldAddr 125 (.tmp 43) 0, 0, "parts.go:65", #[⟨2, .data⟩], none⟩ ?vqdm4 ?rqdm4
  (try simp only [Act.put, tC, tD, tE])
  refine tA 4 ⟨some 45, .fieldAddr 121 (.tmp 44) 0, 0, "parts.go:65", #[⟨3, .data⟩], none⟩ ?vqdm5 ?rqdm5
  (try simp only [Act.put, tC, tD, tE])
  refine tA 5 ⟨some 46, .load 3 (.tmp 45), 3, "parts.go:65", #[⟨4, .data⟩], none⟩ ?vqdm6 ?rqdm6
  (try simp only [Act.put, tC, tD, tE])
  refine tA 6 ⟨some 47, .load 32 (.tmp 1), 32, "parts.go:65", #[], none⟩ ?vqdm7 ?rqdm7
  (try simp only [Act.put, tC, tD, tE])
  refine tA 7 ⟨some 48, .nilCheck (.tmp 47), 0, "parts.go:65", #[⟨6, .data⟩], none⟩ ?vqdm8 ?rqdm8
  (try simp only [Act.put, tC, tD, tE])
  refine tA 8 ⟨some 49, .fieldAddr 125 (.tmp 48) 0, 0, "parts.go:65", #[⟨7, .data⟩], none⟩ ?vqdm9 ?rqdm9
  (try simp only [Act.put, tC, tD, tE])
  refine tA 9 ⟨some 50, .fieldAddr 121 (.tmp 49) 1, 0, "parts.go:65", #[⟨8, .data⟩], none⟩ ?vqdm10 ?rqdm10
  (try simp only [Act.put, tC, tD, tE])
  refine tA 10 ⟨some 51, .load 35 (.tmp 50), 35, "parts.go:65", #[⟨9, .data⟩], none⟩ ?vqdm11 ?rqdm11
  (try simp only [Act.put, tC, tD, tE])
  refine wpAnyH_ready (rs := [11]) (by kernel_rfl) (by simp) ?_
  refine AllReadyH.cons (o := ⟨some 52, .call ⟨.value (.func 218), #[.tmp 41, .tmp 46, .const (.int .u8 1), .tmp 51], #[24, 3, 287, 35]⟩, 0, "parts.go:65", #[⟨0, .data⟩, ⟨5, .data⟩, ⟨10, .data⟩], none⟩) rfl (fun Kq hKq => ?_) AllReadyH.nil
  go_simp
  (refine HNT.out.mono ?_; rintro e' w8 ⟨rfl, X8, h8⟩; have H8 := Lib.hid (H7.out.pgq h8); clear h8)
  refine hKq.out _ _ ?_ (fun hHeld => ?_)
  · exact ⟨cell_row (H8.out.blk k HXR.out) 0, cell_row (H8.out.blk 0 HBR.out) 0, cell_row (H8.out.blk 0 HBR.out) 1⟩
  clear hKq Kq
  (try simp only [Act.put, tC, tD, tE])
  refine wpAnyH_done (by kernel_rfl) ?_ _
  go_end0
  exact ⟨rfl, X8, H8.out⟩
end
end Go.Proofs.YtieiiabbeglmfaaGreatDoor.S18
