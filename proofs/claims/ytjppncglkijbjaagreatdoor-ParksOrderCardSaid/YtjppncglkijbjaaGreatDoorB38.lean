/- Texts of this seat, one behind the other. -/
import Derived.Test.YtjppncglkijbjaaGreatDoorB37
import Derived.StillTailTactics
import Derived.Deep.RegionLaw
set_option linter.unusedVariables false
set_option linter.unusedSimpArgs false
set_option linter.unusedVariables false
set_option linter.unusedSimpArgs false
namespace Go.Proofs.YtjppncglkijbjaaGreatDoor.S18
open Go.Proofs.YtjppncglkijbjaaGreatDoor Go.Proofs.YtjppncglkijbjaaGreatDoor.S11 Go.Proofs.YtjppncglkijbjaaGreatDoor.S12 Go.Proofs.YtjppncglkijbjaaGreatDoor.S13 Go.Proofs.YtjppncglkijbjaaGreatDoor.S14 Go.Proofs.YtjppncglkijbjaaGreatDoor.S15 Go.Proofs.YtjppncglkijbjaaGreatDoor.S16
open Go.RowKit

theorem merge2 {α β : Type} {S P : α → β → World → Prop} {G : Prop} (h2 : (∀ x y W, S x y W → P x y W) → G) (h1 : ∀ x y W, S x y W → P x y W) : G := h2 h1
section
variable {w0 w w' : World} {base WB : Nat} {M : Sd} {r : List Part} {j e u B : Nat} {l l' : Rows} {X : Wm} {D : Pd} {pb pi : Int} {p b : Value} {o : Nat}
theorem _root_.Go.Proofs.YtjppncglkijbjaaGreatDoor.S16.Wq.pgq (h : Wq w0 w base WB M r j l X) {M' : Sd} {X' : Wm} (hp : Pg w0 w' base WB M' (r.set j (rowsP l)) X') : Wq w0 w' base WB M' r j l X' := ⟨hp, h.hj⟩
set_option maxRecDepth 100000 in
set_option maxHeartbeats 4000000 in
theorem store1_ {XB k : Nat} (h : Wq w0 w base WB M r j l X) (hb : l[0]? = some (B, pkO D pb pi p b o)) (hx : l[k]? = some (XB, xO B)) (ht : D.t < 64) (hk : D.k < 4294967296) (hn : M.n ≤ 1000000000) :
    Calls Tryz.prog 159 #[Pw WB, Pw XB] w fun e' w' => e' = .returned (.tuple #[]) ∧ ∃ X', Wq w0 w' base WB (M.acc 2 (64 + D.t) D.k) r j l X' := by
  have y0 : w.cell? ⟨XB, 0, none⟩ = some (Pw B) := cell_row (h.blk k hx) 0
  have c0 : w.cell? ⟨B, 0, none⟩ = some (.int .i64 (D.t : Int)) := cell_row (h.blk 0 hb) 0
  have c1 : w.cell? ⟨B, 1, none⟩ = some (.int .u32 (D.k : Int)) := cell_row (h.blk 0 hb) 1
  have hc0 := h.pg.c.1
  obtain ⟨cb, hcb⟩ : ∃ cb, X.cB = cb := ⟨_, rfl⟩
  rw [hcb] at hc0
  have hst := (h.new (Below.refl _ w).drew).pg.store (a := 64 + D.t) (v := D.k) (by omega) (by omega) hn
  rw [hcb] at hst
  obtain ⟨ad, had⟩ : ∃ ad, ad = 64 + D.t := ⟨_, rfl⟩
  rw [← had] at hst
  rw [← had]
  have HST := Lib.hid hst; have H := Lib.hid h; have HXR := Lib.hid hx; have HBR := Lib.hid hb; have HCB := Lib.hid hcb
  have e1 : IntKind.u32.wrap (D.t : Int) = (D.t : Int) := by rw [IntKind.wrap_u32]; omega
  have e2 : IntKind.u32.wrap (64 + (D.t : Int)) = ((ad : Nat) : Int) := by rw [IntKind.wrap_u32]; omega
  have e3 : IntKind.u64.wrap (D.k : Int) = (D.k : Int) := by rw [IntKind.wrap_u64]; omega
  clear h hb hx ht hk hn hcb hst had
  go_enter Tryz.func159, Tryz.ntmps159
  refine wp_region_held_drew (S := fun w' => w'.cell? ⟨WB, 0, none⟩ = some (Pw cb) ∧ w'.cell? ⟨XB, 0, none⟩ = some (Pw B) ∧ w'.cell? ⟨B, 0, none⟩ = some (.int .i64 (D.t : Int)) ∧ w'.cell? ⟨B, 1, none⟩ = some (.int .u32 (D.k : Int))) (by kernel_rfl) ?_ (fun hHeld => ?_)
  · exact ⟨hc0, y0, c0, c1⟩
  refine wpAnyH_take (i := 0) (oi := ({ dst := some 3, op := Op.move (Operand.tmp 0), type := 24, pos := "parts.go:55", after := #[], guard := none } : Oper)) (v := ?vstm1) rfl (by kernel_rfl) (by kernel_rfl) (by kernel_rfl) (fun _ _ _ h => h) (Or.inl ⟨by rfl, fun w hSw => ?hystm1⟩) (by assumption) ?rstm1
  case hystm1 => (try dsimp only at hSw); go_simp; (try with_reducible rfl)
  (try simp only [Act.put, List.setIfInBounds_toArray, List.set_cons_zero, List.set_cons_succ])
  refine wpAnyH_take (i := 1) (oi := ({ dst := some 4, op := Op.nilCheck (Operand.tmp 3), type := 0, pos := "parts.go:55", after := #[{ on := 0, ground := Ground.data }], guard := none } : Oper)) (v := ?vstm2) rfl (by kernel_rfl) (by kernel_rfl) (by kernel_rfl) (fun _ _ _ h => h) (Or.inl ⟨by rfl, fun w hSw => ?hystm2⟩) (by assumption) ?rstm2
  case hystm2 => (try dsimp only at hSw); go_simp; (try with_reducible rfl)
  (try simp only [Act.put, List.setIfInBounds_toArray, List.set_cons_zero, List.set_cons_succ])
  refine wpAnyH_take (i := 2) (oi := ({ dst := some 5, op := Op.fieldAddr 47 (Operand.tmp 4) 0, type := 0, pos := "parts.go:55", after := #[{ on := 1, ground := Ground.data }], guard := none } : Oper)) (v := ?vstm3) rfl (by kernel_rfl) (by kernel_rfl) (by kernel_rfl) (fun _ _ _ h => h) (Or.inl ⟨by rfl, fun w hSw => ?hystm3⟩) (by assumption) ?rstm3
  case hystm3 => (try dsimp only at hSw); go_simp; (try with_reducible rfl)
  (try simp only [Act.put, List.setIfInBounds_toArray, List.set_cons_zero, List.set_cons_succ])
  refine wpAnyH_take (i := 3) (oi := ({ dst := some 6, op := Op.load 39 (Operand.tmp 5), type := 39, pos := "parts.go:55", after := #[{ on := 2, ground := Ground.data }], guard := none } : Oper)) (v := ?vstm4) rfl (by kernel_rfl) (by kernel_rfl) (by kernel_rfl) (fun _ _ _ h => h) (Or.inl ⟨by rfl, fun w hSw => ?hystm4⟩) (by assumption) ?rstm4
  case hystm4 => (try dsimp only at hSw); go_simp; (try with_reducible rfl)
  (try simp only [Act.put, List.setIfInBounds_toArray, List.set_cons_zero, List.set_cons_succ])
  refine wpAnyH_take (i := 4) (oi := ({ dst := some 7, op := Op.load 32 (Operand.tmp 1), type := 32, pos := "parts.go:55", after := #[], guard := none } : Oper)) (v := ?vstm5) rfl (by kernel_rfl) (by kernel_rfl) (by kernel_rfl) (fun _ _ _ h => h) (Or.inl ⟨by rfl, fun w hSw => ?hystm5⟩) (by assumption) ?rstm5
  case hystm5 => (try dsimp only at hSw); go_simp; (try with_reducible rfl)
  (try simp only [Act.put, List.setIfInBounds_toArray, List.set_cons_zero, List.set_cons_succ])
  refine wpAnyH_take (i := 5) (oi := ({ dst := some 8, op := Op.nilCheck (Operand.tmp 7), type := 0, pos := "parts.go:55", after := #[{ on := 4, ground := Ground.data }], guard := none } : Oper)) (v := ?vstm6) rfl (by kernel_rfl) (by kernel_rfl) (by kernel_rfl) (fun _ _ _ h => h) (Or.inl ⟨by rfl, fun w hSw => ?hystm6⟩) (by assumption) ?rstm6
  case hystm6 => (try dsimp only at hSw); go_simp; (try with_reducible rfl)
  (try simp only [Act.put, List.setIfInBounds_toArray, List.set_cons_zero, List.set_cons_succ])
  refine wpAnyH_take (i := 6) (oi := ({ dst := some 9, op := Op.fieldAddr 116 (Operand.tmp 8) 0, type := 0, pos := "parts.go:55", after := #[{ on := 5, ground := Ground.data }], guard := none } : Oper)) (v := ?vstm7) rfl (by kernel_rfl) (by kernel_rfl) (by kernel_rfl) (fun _ _ _ h => h) (Or.inl ⟨by rfl, fun w hSw => ?hystm7⟩) (by assumption) ?rstm7
  case hystm7 => (try dsimp only at hSw); go_simp; (try with_reducible rfl)
  (try simp only [Act.put, List.setIfInBounds_toArray, List.set_cons_zero, List.set_cons_succ])
  refine wpAnyH_take (i := 7) (oi := ({ dst := some 10, op := Op.fieldAddr 112 (Operand.tmp 9) 0, type := 0, pos := "parts.go:55", after := #[{ on := 6, ground := Ground.data }], guard := none } : Oper)) (v := ?vstm8) rfl (by kernel_rfl) (by kernel_rfl) (by kernel_rfl) (fun _ _ _ h => h) (Or.inl ⟨by rfl, fun w hSw => ?hystm8⟩) (by assumption) ?rstm8
  case hystm8 => (try dsimp only at hSw); go_simp; (try with_reducible rfl)
  (try simp only [Act.put, List.setIfInBounds_toArray, List.set_cons_zero, List.set_cons_succ])
  refine wpAnyH_take (i := 8) (oi := ({ dst := some 11, op := Op.load 3 (Operand.tmp 10), type := 3, pos := "parts.go:55", after := #[{ on := 7, ground := Ground.data }], guard := none } : Oper)) (v := ?vstm9) rfl (by kernel_rfl) (by kernel_rfl) (by kernel_rfl) (fun _ _ _ h => h) (Or.inl ⟨by rfl, fun w hSw => ?hystm9⟩) (by assumption) ?rstm9
  case hystm9 => (try dsimp only at hSw); go_simp; (try with_reducible rfl)
  (try simp only [Act.put, List.setIfInBounds_toArray, List.set_cons_zero, List.set_cons_succ])
  refine wpAnyH_take (i := 9) (oi := ({ dst := some 12, op := Op.convert 3 35 (Operand.tmp 11), type := 35, pos := "parts.go:55", after := #[{ on := 8, ground := Ground.data }], guard := none } : Oper)) (v := ?vstm10) rfl (by kernel_rfl) (by kernel_rfl) (by kernel_rfl) (fun _ _ _ h => h) (Or.inl ⟨by rfl, fun w hSw => ?hystm10⟩) (by assumption) ?rstm10
  case hystm10 => (try dsimp only at hSw); go_simp; (try with_reducible rfl)
  (try simp only [Act.put, List.setIfInBounds_toArray, List.set_cons_zero, List.set_cons_succ])
  refine wpAnyH_take (i := 10) (oi := ({ dst := some 13, op := Op.binOp BinOp.add 35 (Operand.const (Value.int IntKind.u32 64)) (Operand.tmp 12) 35, type := 35, pos := "parts.go:55", after := #[{ on := 9, ground := Ground.data }], guard := none } : Oper)) (v := ?vstm11) rfl (by kernel_rfl) (by kernel_rfl) (by kernel_rfl) (fun _ _ _ h => h) (Or.inl ⟨by rfl, fun w hSw => ?hystm11⟩) (by assumption) ?rstm11
  case hystm11 => (try dsimp only at hSw); go_simp; (try with_reducible rfl)
  (try simp only [Act.put, List.setIfInBounds_toArray, List.set_cons_zero, List.set_cons_succ])
  refine wpAnyH_take (i := 11) (oi := ({ dst := some 14, op := Op.load 32 (Operand.tmp 1), type := 32, pos := "parts.go:55", after := #[], guard := none } : Oper)) (v := ?vstm12) rfl (by kernel_rfl) (by kernel_rfl) (by kernel_rfl) (fun _ _ _ h => h) (Or.inl ⟨by rfl, fun w hSw => ?hystm12⟩) (by assumption) ?rstm12
  case hystm12 => (try dsimp only at hSw); go_simp; (try with_reducible rfl)
  (try simp only [Act.put, List.setIfInBounds_toArray, List.set_cons_zero, List.set_cons_succ])
  refine wpAnyH_take (i := 12) (oi := ({ dst := some 15, op := Op.nilCheck (Operand.tmp 14), type := 0, pos := "parts.go:55", after := #[{ on := 11, ground := Ground.data }], guard := none } : Oper)) (v := ?vstm13) rfl (by kernel_rfl) (by kernel_rfl) (by kernel_rfl) (fun _ _ _ h => h) (Or.inl ⟨by rfl, fun w hSw => ?hystm13⟩) (by assumption) ?rstm13
  case hystm13 => (try dsimp only at hSw); go_simp; (try with_reducible rfl)
  (try simp only [Act.put, List.setIfInBounds_toArray, List.set_cons_zero, List.set_cons_succ])
  refine wpAnyH_take (i := 13) (oi := ({ dst := some 16, op := Op.fieldAddr 116 (Operand.tmp 15) 0, type := 0, pos := "parts.go:55", after := #[{ on := 12, ground := Ground.data }], guard := none } : Oper)) (v := ?vstm14) rfl (by kernel_rfl) (by kernel_rfl) (by kernel_rfl) (fun _ _ _ h => h) (Or.inl ⟨by rfl, fun w hSw => ?hystm14⟩) (by assumption) ?rstm14
  case hystm14 => (try dsimp only at hSw); go_simp; (try with_reducible rfl)
  (try simp only [Act.put, List.setIfInBounds_toArray, List.set_cons_zero, List.set_cons_succ])
  refine wpAnyH_take (i := 14) (oi := ({ dst := some 17, op := Op.fieldAddr 112 (Operand.tmp 16) 1, type := 0, pos := "parts.go:55", after := #[{ on := 13, ground := Ground.data }], guard := none } : Oper)) (v := ?vstm15) rfl (by kernel_rfl) (by kernel_rfl) (by kernel_rfl) (fun _ _ _ h => h) (Or.inl ⟨by rfl, fun w hSw => ?hystm15⟩) (by assumption) ?rstm15
  case hystm15 => (try dsimp only at hSw); go_simp; (try with_reducible rfl)
  (try simp only [Act.put, List.setIfInBounds_toArray, List.set_cons_zero, List.set_cons_succ])
  refine wpAnyH_take (i := 15) (oi := ({ dst := some 18, op := Op.load 35 (Operand.tmp 17), type := 35, pos := "parts.go:55", after := #[{ on := 14, ground := Ground.data }], guard := none } : Oper)) (v := ?vstm16) rfl (by kernel_rfl) (by kernel_rfl) (by kernel_rfl) (fun _ _ _ h => h) (Or.inl ⟨by rfl, fun w hSw => ?hystm16⟩) (by assumption) ?rstm16
  case hystm16 => (try dsimp only at hSw); go_simp; (try with_reducible rfl)
  (try simp only [Act.put, List.setIfInBounds_toArray, List.set_cons_zero, List.set_cons_succ])
  refine wpAnyH_take (i := 16) (oi := ({ dst := some 19, op := Op.convert 35 23 (Operand.tmp 18), type := 23, pos := "parts.go:55", after := #[{ on := 15, ground := Ground.data }], guard := none } : Oper)) (v := ?vstm17) rfl (by kernel_rfl) (by kernel_rfl) (by kernel_rfl) (fun _ _ _ h => h) (Or.inl ⟨by rfl, fun w hSw => ?hystm17⟩) (by assumption) ?rstm17
  case hystm17 => (try dsimp only at hSw); go_simp; (try with_reducible rfl)
  (try simp only [Act.put, List.setIfInBounds_toArray, List.set_cons_zero, List.set_cons_succ])
  refine wpAnyH_ready (rs := [17]) (by kernel_rfl) (by simp) ?_
  refine AllReadyH.cons (o := ({ dst := some 20, op := Op.call { callee := Callee.value (Operand.func 99), args := #[Operand.tmp 6, Operand.tmp 13, Operand.tmp 19], argTypes := #[39, 35, 23] }, type := 23, pos := "parts.go:55", after := #[{ on := 3, ground := Ground.data }, { on := 10, ground := Ground.data }, { on := 16, ground := Ground.data }], guard := none } : Oper)) rfl (fun Kq hKq => ?_) AllReadyH.nil
  go_simp
  (refine HST.out.mono ?_; rintro e' w1 ⟨rfl, X1, h1, hc1⟩)
  refine hKq.out _ _ ?_ (fun hHeld => ?_)
  · exact ⟨by rw [← hc1]; exact h1.c.1, cell_row ((H.out.pgq h1).blk k HXR.out) 0, cell_row ((H.out.pgq h1).blk 0 HBR.out) 0, cell_row ((H.out.pgq h1).blk 0 HBR.out) 1⟩
  clear hKq Kq
  (try simp only [Act.put, List.setIfInBounds_toArray, List.set_cons_zero, List.set_cons_succ])
  refine wpAnyH_done (by kernel_rfl) ?_ _
  go_end0
  exact ⟨rfl, X1, H.out.pgq h1⟩
def entD (D : Pd) : S10.Ent := ⟨(D.t : Int), (D.k : Int), (D.z : Int)⟩
def queM (M : Sd) (D : Pd) (pb : Int) (pi : Nat) : Sd := ((M.prep (2 * D.t)).putq pb pi (qAt M pb pi ++ [entD D])).note ⟨((M.n + (M.pn + 1) : Nat) : Int), (D.t : Int), 1, (D.k : Int), -1, 0, 0⟩
set_option maxRecDepth 100000 in
set_option maxHeartbeats 4000000 in
theorem queue1_ {XB k pi : Nat} (h : Wq w0 w base WB M r j l X) (hb : l[0]? = some (B, pkO D pb (pi : Int) p b o)) (hx : l[k]? = some (XB, xO B)) (ht : D.t < 64) (hn : M.n ≤ 900000000) (hpn : M.pn ≤ 900000000) (hT : Tab w0) (hT1 : 0 < base)
    (hpb : S10.InI pb) (hpi : pi < (M.m pb).length) (hq : (qAt M pb pi).length ≤ 900) (hnl : M.nD.length ≤ 90000) :
    Calls Tryz.prog 181 #[Pw WB, Pw XB] w fun e' w' => e' = .returned (.tuple #[]) ∧ ∃ X', Wq w0 w' base WB (queM M D pb pi) r j l X' := by
  have y0 : w.cell? ⟨XB, 0, none⟩ = some (Pw B) := cell_row (h.blk k hx) 0
  have c0 : w.cell? ⟨B, 0, none⟩ = some (.int .i64 (D.t : Int)) := cell_row (h.blk 0 hb) 0
  have hp2 := h.pg.c.2.1
  obtain ⟨pB, hpB⟩ : ∃ pB, X.pB = pB := ⟨_, rfl⟩
  rw [hpB] at hp2
  have hpr := (h.new (Below.refl _ w).drew).pg.prep (i := 2 * D.t) (by omega) (by omega)
  rw [hpB] at hpr
  have HL := Lib.hid (lotc (W := w.drew) c0 ht); have HPR := Lib.hid hpr; have HPB := Lib.hid hpB
  have H := Lib.hid h; have HBR := Lib.hid hb; have HXR := Lib.hid hx
  have HK := Lib.hid (And.intro hn (And.intro hpn (And.intro hT (And.intro hT1 (And.intro hpb (And.intro hpi (And.intro hq hnl)))))))
  clear h hb hx ht hn hpn hT hT1 hpb hpi hq hnl hpB hpr
  go_enter Tryz.func181, Tryz.ntmps181
  refine wp_seq ?_
  refine wp_region_held_drew (S := fun w' => w'.cell? ⟨WB, 2, none⟩ = some (Pw pB) ∧ w'.cell? ⟨XB, 0, none⟩ = some (Pw B) ∧ w'.cell? ⟨B, 0, none⟩ = some (.int .i64 (D.t : Int))) (by kernel_rfl) ?_ (fun hHeld => ?_)
  · exact ⟨hp2, cell_row ((H.out.new (Below.refl _ _).drew).blk k HXR.out) 0, cell_row ((H.out.new (Below.refl _ _).drew).blk 0 HBR.out) 0⟩
  refine wpAnyH_take (i := 0) (oi := ({ dst := some 4, op := Op.move (Operand.tmp 0), type := 24, pos := "parts.go:62", after := #[], guard := none } : Oper)) (v := ?vqam1) rfl (by kernel_rfl) (by kernel_rfl) (by kernel_rfl) (fun _ _ _ h => h) (Or.inl ⟨by rfl, fun w hSw => ?hyqam1⟩) (by assumption) ?rqam1
  case hyqam1 => (try dsimp only at hSw); go_simp; (try with_reducible rfl)
  (try simp only [Act.put, List.setIfInBounds_toArray, List.set_cons_zero, List.set_cons_succ])
  refine wpAnyH_take (i := 1) (oi := ({ dst := some 5, op := Op.nilCheck (Operand.tmp 4), type := 0, pos := "parts.go:62", after := #[{ on := 0, ground := Ground.data }], guard := none } : Oper)) (v := ?vqam2) rfl (by kernel_rfl) (by kernel_rfl) (by kernel_rfl) (fun _ _ _ h => h) (Or.inl ⟨by rfl, fun w hSw => ?hyqam2⟩) (by assumption) ?rqam2
  case hyqam2 => (try dsimp only at hSw); go_simp; (try with_reducible rfl)
  (try simp only [Act.put, List.setIfInBounds_toArray, List.set_cons_zero, List.set_cons_succ])
  refine wpAnyH_take (i := 2) (oi := ({ dst := some 6, op := Op.fieldAddr 47 (Operand.tmp 5) 2, type := 0, pos := "parts.go:62", after := #[{ on := 1, ground := Ground.data }], guard := none } : Oper)) (v := ?vqam3) rfl (by kernel_rfl) (by kernel_rfl) (by kernel_rfl) (fun _ _ _ h => h) (Or.inl ⟨by rfl, fun w hSw => ?hyqam3⟩) (by assumption) ?rqam3
  case hyqam3 => (try dsimp only at hSw); go_simp; (try with_reducible rfl)
  (try simp only [Act.put, List.setIfInBounds_toArray, List.set_cons_zero, List.set_cons_succ])
  refine wpAnyH_take (i := 3) (oi := ({ dst := some 7, op := Op.load 41 (Operand.tmp 6), type := 41, pos := "parts.go:62", after := #[{ on := 2, ground := Ground.data }], guard := none } : Oper)) (v := ?vqam4) rfl (by kernel_rfl) (by kernel_rfl) (by kernel_rfl) (fun _ _ _ h => h) (Or.inl ⟨by rfl, fun w hSw => ?hyqam4⟩) (by assumption) ?rqam4
  case hyqam4 => (try dsimp only at hSw); go_simp; (try with_reducible rfl)
  (try simp only [Act.put, List.setIfInBounds_toArray, List.set_cons_zero, List.set_cons_succ])
  refine wpAnyH_take (i := 4) (oi := ({ dst := some 8, op := Op.load 32 (Operand.tmp 1), type := 32, pos := "parts.go:62", after := #[], guard := none } : Oper)) (v := ?vqam5) rfl (by kernel_rfl) (by kernel_rfl) (by kernel_rfl) (fun _ _ _ h => h) (Or.inl ⟨by rfl, fun w hSw => ?hyqam5⟩) (by assumption) ?rqam5
  case hyqam5 => (try dsimp only at hSw); go_simp; (try with_reducible rfl)
  (try simp only [Act.put, List.setIfInBounds_toArray, List.set_cons_zero, List.set_cons_succ])
  refine wpAnyH_ready (rs := [5]) (by kernel_rfl) (by simp) ?_
  refine AllReadyH.cons (o := ({ dst := some 9, op := Op.call { callee := Callee.value (Operand.func 183), args := #[Operand.tmp 8], argTypes := #[32] }, type := 3, pos := "parts.go:62", after := #[{ on := 4, ground := Ground.data }], guard := none } : Oper)) rfl (fun Kq hKq => ?_) AllReadyH.nil
  go_simp
  (refine (HL.out).mono ?_; rintro e' w1 ⟨rfl, rfl⟩)
  refine hKq.out _ _ ?_ (fun hHeld => ?_)
  · exact hHeld
  clear hKq Kq
  (try simp only [Act.put, List.setIfInBounds_toArray, List.set_cons_zero, List.set_cons_succ])
  refine wpAnyH_ready (rs := [6]) (by kernel_rfl) (by simp) ?_
  refine AllReadyH.cons (o := ({ dst := some 10, op := Op.call { callee := Callee.value (Operand.func 182), args := #[Operand.tmp 7, Operand.tmp 9], argTypes := #[41, 3] }, type := 0, pos := "parts.go:62", after := #[{ on := 3, ground := Ground.data }, { on := 5, ground := Ground.data }, { on := 5, ground := Ground.chain }], guard := none } : Oper)) rfl (fun Kq hKq => ?_) AllReadyH.nil
  go_simp
  (refine HPR.out.mono ?_; rintro e' w2 ⟨rfl, X2, h2, hpb2⟩; have H2 := Lib.hid (H.out.pgq h2); have HP2 := Lib.hid hpb2; clear h2 hpb2)
  refine hKq.out _ _ ?_ (fun hHeld => ?_)
  · exact ⟨by rw [← HP2.out]; exact H2.out.pg.c.2.1, cell_row (H2.out.blk k HXR.out) 0, cell_row (H2.out.blk 0 HBR.out) 0⟩
  clear hKq Kq
  (try simp only [Act.put, List.setIfInBounds_toArray, List.set_cons_zero, List.set_cons_succ])
  refine wpAnyH_done (by kernel_rfl) ?_ _
  clear hHeld y0 c0 hp2
  obtain ⟨ts, hts⟩ : ∃ ts, X2.ts = ts := ⟨_, rfl⟩
  obtain ⟨q, hq⟩ : ∃ q, q = qAt M pb pi := ⟨_, rfl⟩
  have HTS := Lib.hid hts; have HQL := Lib.hid hq
  have hqq : ∀ W, Below w2.heap.size w2 W → Calls Tryz.prog 38 #[ts, .agg #[.int .i64 pb, .int .i64 (pi : Int)]] W fun e w' => ∃ A', e = .returned (.slice A' q.length q.length) ∧ S10.RowE w' W.heap.size (.slice A' q.length q.length) q ∧ Below W.heap.size W w' := fun W hW => by
    have := (H2.out.new hW).pg.queue (b := pb) HK.out.2.2.2.2.1 (i := pi) HK.out.2.2.2.2.2.1 (by have := HK.out.2.2.2.2.2.2.1; show (qAt M pb pi).length ≤ _; omega)
    rw [HTS.out] at this
    rw [HQL.out]
    exact this
  have HQ := Lib.hid hqq
  clear hts hq hqq
  go_upto_region 1 with fail
  refine wp_region_held_drew (S := fun w' => w'.cell? ⟨WB, 4, none⟩ = some ts ∧ w'.cell? ⟨XB, 0, none⟩ = some (Pw B) ∧ w'.cell? ⟨B, 0, none⟩ = some (.int .i64 (D.t : Int)) ∧ w'.cell? ⟨B, 1, none⟩ = some (.int .u32 (D.k : Int)) ∧ w'.cell? ⟨B, 2, none⟩ = some (.int .u64 (D.z : Int)) ∧ w'.cell? ⟨B, 6, none⟩ = some (.int .i64 pb) ∧ w'.cell? ⟨B, 7, none⟩ = some (.int .i64 (pi : Int))) (by kernel_rfl) ?_ (fun hHeld => ?_)
  · exact ⟨by rw [← HTS.out]; exact (H2.out.new (Below.refl _ _).drew).pg.k4, cell_row ((H2.out.new (Below.refl _ _).drew).blk k HXR.out) 0, cell_row ((H2.out.new (Below.refl _ _).drew).blk 0 HBR.out) 0, cell_row ((H2.out.new (Below.refl _ _).drew).blk 0 HBR.out) 1, cell_row ((H2.out.new (Below.refl _ _).drew).blk 0 HBR.out) 2, cell_row ((H2.out.new (Below.refl _ _).drew).blk 0 HBR.out) 6, cell_row ((H2.out.new (Below.refl _ _).drew).blk 0 HBR.out) 7⟩
  refine wpAnyH_take (i := 0) (oi := ({ dst := some 11, op := Op.move (Operand.tmp 0), type := 24, pos := "parts.go:63", after := #[], guard := none } : Oper)) (v := ?vqbm1) rfl (by kernel_rfl) (by kernel_rfl) (by kernel_rfl) (fun _ _ _ h => h) (Or.inl ⟨by rfl, fun w hSw => ?hyqbm1⟩) (by assumption) ?rqbm1
  case hyqbm1 => (try dsimp only at hSw); go_simp; (try with_reducible rfl)
  (try simp only [Act.put, List.setIfInBounds_toArray, List.set_cons_zero, List.set_cons_succ])
  refine wpAnyH_take (i := 1) (oi := ({ dst := some 12, op := Op.nilCheck (Operand.tmp 11), type := 0, pos := "parts.go:63", after := #[{ on := 0, ground := Ground.data }], guard := none } : Oper)) (v := ?vqbm2) rfl (by kernel_rfl) (by kernel_rfl) (by kernel_rfl) (fun _ _ _ h => h) (Or.inl ⟨by rfl, fun w hSw => ?hyqbm2⟩) (by assumption) ?rqbm2
  case hyqbm2 => (try dsimp only at hSw); go_simp; (try with_reducible rfl)
  (try simp only [Act.put, List.setIfInBounds_toArray, List.set_cons_zero, List.set_cons_succ])
  refine wpAnyH_take (i := 2) (oi := ({ dst := some 13, op := Op.fieldAddr 47 (Operand.tmp 12) 4, type := 0, pos := "parts.go:63", after := #[{ on := 1, ground := Ground.data }], guard := none } : Oper)) (v := ?vqbm3) rfl (by kernel_rfl) (by kernel_rfl) (by kernel_rfl) (fun _ _ _ h => h) (Or.inl ⟨by rfl, fun w hSw => ?hyqbm3⟩) (by assumption) ?rqbm3
  case hyqbm3 => (try dsimp only at hSw); go_simp; (try with_reducible rfl)
  (try simp only [Act.put, List.setIfInBounds_toArray, List.set_cons_zero, List.set_cons_succ])
  refine wpAnyH_take (i := 3) (oi := ({ dst := some 14, op := Op.load 43 (Operand.tmp 13), type := 43, pos := "parts.go:63", after := #[{ on := 2, ground := Ground.data }], guard := none } : Oper)) (v := ?vqbm4) rfl (by kernel_rfl) (by kernel_rfl) (by kernel_rfl) (fun _ _ _ h => h) (Or.inl ⟨by rfl, fun w hSw => ?hyqbm4⟩) (by assumption) ?rqbm4
  case hyqbm4 => (try dsimp only at hSw); go_simp; (try with_reducible rfl)
  (try simp only [Act.put, List.setIfInBounds_toArray, List.set_cons_zero, List.set_cons_succ])
  refine wpAnyH_take (i := 4) (oi := ({ dst := some 15, op := Op.load 32 (Operand.tmp 1), type := 32, pos := "parts.go:63", after := #[], guard := none } : Oper)) (v := ?vqbm5) rfl (by kernel_rfl) (by kernel_rfl) (by kernel_rfl) (fun _ _ _ h => h) (Or.inl ⟨by rfl, fun w hSw => ?hyqbm5⟩) (by assumption) ?rqbm5
  case hyqbm5 => (try dsimp only at hSw); go_simp; (try with_reducible rfl)
  (try simp only [Act.put, List.setIfInBounds_toArray, List.set_cons_zero, List.set_cons_succ])
  refine wpAnyH_take (i := 5) (oi := ({ dst := some 16, op := Op.nilCheck (Operand.tmp 15), type := 0, pos := "parts.go:63", after := #[{ on := 4, ground := Ground.data }], guard := none } : Oper)) (v := ?vqbm6) rfl (by kernel_rfl) (by kernel_rfl) (by kernel_rfl) (fun _ _ _ h => h) (Or.inl ⟨by rfl, fun w hSw => ?hyqbm6⟩) (by assumption) ?rqbm6
  case hyqbm6 => (try dsimp only at hSw); go_simp; (try with_reducible rfl)
  (try simp only [Act.put, List.setIfInBounds_toArray, List.set_cons_zero, List.set_cons_succ])
  refine wpAnyH_take (i := 6) (oi := ({ dst := some 17, op := Op.fieldAddr 116 (Operand.tmp 16) 3, type := 0, pos := "parts.go:63", after := #[{ on := 5, ground := Ground.data }], guard := none } : Oper)) (v := ?vqbm7) rfl (by kernel_rfl) (by kernel_rfl) (by kernel_rfl) (fun _ _ _ h => h) (Or.inl ⟨by rfl, fun w hSw => ?hyqbm7⟩) (by assumption) ?rqbm7
  case hyqbm7 => (try dsimp only at hSw); go_simp; (try with_reducible rfl)
  (try simp only [Act.put, List.setIfInBounds_toArray, List.set_cons_zero, List.set_cons_succ])
  refine wpAnyH_take (i := 7) (oi := ({ dst := some 18, op := Op.load 97 (Operand.tmp 17), type := 97, pos := "parts.go:63", after := #[{ on := 6, ground := Ground.data }], guard := none } : Oper)) (v := ?vqbm8) rfl (by kernel_rfl) (by kernel_rfl) (by kernel_rfl) (fun _ _ _ h => h) (Or.inl ⟨by rfl, fun w hSw => ?hyqbm8⟩) (by assumption) ?rqbm8
  case hyqbm8 => (try dsimp only at hSw); go_simp; (try with_reducible rfl)
  (try simp only [Act.put, List.setIfInBounds_toArray, List.set_cons_zero, List.set_cons_succ])
  refine wpAnyH_take (i := 9) (oi := ({ dst := some 20, op := Op.load 32 (Operand.tmp 1), type := 32, pos := "parts.go:63", after := #[], guard := none } : Oper)) (v := ?vqbm9) rfl (by kernel_rfl) (by kernel_rfl) (by kernel_rfl) (fun _ _ _ h => h) (Or.inl ⟨by rfl, fun w hSw => ?hyqbm9⟩) (by assumption) ?rqbm9
  case hyqbm9 => (try dsimp only at hSw); go_simp; (try with_reducible rfl)
  (try simp only [Act.put, List.setIfInBounds_toArray, List.set_cons_zero, List.set_cons_succ])
  refine wpAnyH_take (i := 10) (oi := ({ dst := some 21, op := Op.nilCheck (Operand.tmp 20), type := 0, pos := "parts.go:63", after := #[{ on := 9, ground := Ground.data }], guard := none } : Oper)) (v := ?vqbm10) rfl (by kernel_rfl) (by kernel_rfl) (by kernel_rfl) (fun _ _ _ h => h) (Or.inl ⟨by rfl, fun w hSw => ?hyqbm10⟩) (by assumption) ?rqbm10
  case hyqbm10 => (try dsimp only at hSw); go_simp; (try with_reducible rfl)
  (try simp only [Act.put, List.setIfInBounds_toArray, List.set_cons_zero, List.set_cons_succ])
  refine wpAnyH_take (i := 11) (oi := ({ dst := some 22, op := Op.fieldAddr 116 (Operand.tmp 21) 0, type := 0, pos := "parts.go:63", after := #[{ on := 10, ground := Ground.data }], guard := none } : Oper)) (v := ?vqbm11) rfl (by kernel_rfl) (by kernel_rfl) (by kernel_rfl) (fun _ _ _ h => h) (Or.inl ⟨by rfl, fun w hSw => ?hyqbm11⟩) (by assumption) ?rqbm11
  case hyqbm11 => (try dsimp only at hSw); go_simp; (try with_reducible rfl)
  (try simp only [Act.put, List.setIfInBounds_toArray, List.set_cons_zero, List.set_cons_succ])
  refine wpAnyH_take (i := 12) (oi := ({ dst := some 23, op := Op.load 112 (Operand.tmp 22), type := 112, pos := "parts.go:63", after := #[{ on := 11, ground := Ground.data }], guard := none } : Oper)) (v := ?vqbm12) rfl (by kernel_rfl) (by kernel_rfl) (by kernel_rfl) (fun _ _ _ h => h) (Or.inl ⟨by rfl, fun w hSw => ?hyqbm12⟩) (by assumption) ?rqbm12
  case hyqbm12 => (try dsimp only at hSw); go_simp; (try with_reducible rfl)
  (try simp only [Act.put, List.setIfInBounds_toArray, List.set_cons_zero, List.set_cons_succ])
  refine wpAnyH_take (i := 14) (oi := ({ dst := some 25, op := Op.load 32 (Operand.tmp 1), type := 32, pos := "parts.go:63", after := #[], guard := none } : Oper)) (v := ?vqbm13) rfl (by kernel_rfl) (by kernel_rfl) (by kernel_rfl) (fun _ _ _ h => h) (Or.inl ⟨by rfl, fun w hSw => ?hyqbm13⟩) (by assumption) ?rqbm13
  case hyqbm13 => (try dsimp only at hSw); go_simp; (try with_reducible rfl)
  (try simp only [Act.put, List.setIfInBounds_toArray, List.set_cons_zero, List.set_cons_succ])
  refine wpAnyH_take (i := 15) (oi := ({ dst := some 26, op := Op.nilCheck (Operand.tmp 25), type := 0, pos := "parts.go:63", after := #[{ on := 14, ground := Ground.data }], guard := none } : Oper)) (v := ?vqbm14) rfl (by kernel_rfl) (by kernel_rfl) (by kernel_rfl) (fun _ _ _ h => h) (Or.inl ⟨by rfl, fun w hSw => ?hyqbm14⟩) (by assumption) ?rqbm14
  case hyqbm14 => (try dsimp only at hSw); go_simp; (try with_reducible rfl)
  (try simp only [Act.put, List.setIfInBounds_toArray, List.set_cons_zero, List.set_cons_succ])
  refine wpAnyH_take (i := 16) (oi := ({ dst := some 27, op := Op.fieldAddr 116 (Operand.tmp 26) 0, type := 0, pos := "parts.go:63", after := #[{ on := 15, ground := Ground.data }], guard := none } : Oper)) (v := ?vqbm15) rfl (by kernel_rfl) (by kernel_rfl) (by kernel_rfl) (fun _ _ _ h => h) (Or.inl ⟨by rfl, fun w hSw => ?hyqbm15⟩) (by assumption) ?rqbm15
  case hyqbm15 => (try dsimp only at hSw); go_simp; (try with_reducible rfl)
  (try simp only [Act.put, List.setIfInBounds_toArray, List.set_cons_zero, List.set_cons_succ])
  refine wpAnyH_take (i := 17) (oi := ({ dst := some 28, op := Op.fieldAddr 112 (Operand.tmp 27) 1, type := 0, pos := "parts.go:63", after := #[{ on := 16, ground := Ground.data }], guard := none } : Oper)) (v := ?vqbm16) rfl (by kernel_rfl) (by kernel_rfl) (by kernel_rfl) (fun _ _ _ h => h) (Or.inl ⟨by rfl, fun w hSw => ?hyqbm16⟩) (by assumption) ?rqbm16
  case hyqbm16 => (try dsimp only at hSw); go_simp; (try with_reducible rfl)
  (try simp only [Act.put, List.setIfInBounds_toArray, List.set_cons_zero, List.set_cons_succ])
  refine wpAnyH_take (i := 18) (oi := ({ dst := some 29, op := Op.load 35 (Operand.tmp 28), type := 35, pos := "parts.go:63", after := #[{ on := 17, ground := Ground.data }], guard := none } : Oper)) (v := ?vqbm17) rfl (by kernel_rfl) (by kernel_rfl) (by kernel_rfl) (fun _ _ _ h => h) (Or.inl ⟨by rfl, fun w hSw => ?hyqbm17⟩) (by assumption) ?rqbm17
  case hyqbm17 => (try dsimp only at hSw); go_simp; (try with_reducible rfl)
  (try simp only [Act.put, List.setIfInBounds_toArray, List.set_cons_zero, List.set_cons_succ])
  apply merge2 (S := fun (A' : Option Addr) (NB : Nat) (W : World) => Below w2.heap.size w2 W ∧ S10.Rd W W.heap.size A' (S10.flat q) ∧ S10.Rd W W.heap.size (some ⟨NB, 0, none⟩) (S10.flat [entD D]))
  · intro REST
    refine wpAnyH_ready (rs := [8, 13]) (by kernel_rfl) (by simp) ?_
    refine AllReadyH.cons (o := ({ dst := some 19, op := Op.call { callee := Callee.value (Operand.func 38), args := #[Operand.tmp 14, Operand.tmp 18], argTypes := #[43, 97] }, type := 109, pos := "parts.go:63", after := #[{ on := 3, ground := Ground.data }, { on := 7, ground := Ground.data }], guard := none } : Oper)) rfl (fun Kq hKq => ?_) ?_
    · go_simp
      (first | (refine (HQ.out _ (Below.refl _ _).drew).mono ?_; rintro e' w3 ⟨A3, rfl, hr3, hb3⟩; have HBQ := Lib.hid ((Below.refl _ _).drew.trans hb3); have HRQ := Lib.hid hr3; have HWA := Lib.hid (H2.out.new HBQ.out); clear hr3 hb3) | (refine (HQ.out _ HBE.out).mono ?_; rintro e' w4 ⟨A3, rfl, hr3, hb3⟩; have HBQ := Lib.hid (HBE.out.trans (hb3.mono HBE.out.size)); have HRQ := Lib.hid hr3; have HB3 := Lib.hid hb3; have HWB := Lib.hid (H2.out.new HBQ.out); clear hr3 hb3))
      refine hKq.out _ _ ?_ (fun hHeld => ?_)
      · first | (exact ⟨by rw [← HTS.out]; exact HWA.out.pg.k4, cell_row (HWA.out.blk k HXR.out) 0, cell_row (HWA.out.blk 0 HBR.out) 0, cell_row (HWA.out.blk 0 HBR.out) 1, cell_row (HWA.out.blk 0 HBR.out) 2, cell_row (HWA.out.blk 0 HBR.out) 6, cell_row (HWA.out.blk 0 HBR.out) 7⟩) | (exact ⟨by rw [← HTS.out]; exact HWB.out.pg.k4, cell_row (HWB.out.blk k HXR.out) 0, cell_row (HWB.out.blk 0 HBR.out) 0, cell_row (HWB.out.blk 0 HBR.out) 1, cell_row (HWB.out.blk 0 HBR.out) 2, cell_row (HWB.out.blk 0 HBR.out) 6, cell_row (HWB.out.blk 0 HBR.out) 7⟩)
      clear hKq Kq
      (try simp only [Act.put, List.setIfInBounds_toArray, List.set_cons_zero, List.set_cons_succ])
      refine wpAnyH_ready (rs := [13]) (by kernel_rfl) (by simp) ?_
      refine AllReadyH.cons (o := ({ dst := some 24, op := Op.buildSlice 109 1 #[(0, Operand.tmp 23)], type := 109, pos := "parts.go:63", after := #[{ on := 12, ground := Ground.data }], guard := none } : Oper)) rfl (fun Kq hKq => ?_) AllReadyH.nil
      go_simp
      refine hKq.out _ _ ?_ (fun hHeld => ?_)
      · first | (exact ⟨by rw [← HTS.out]; exact (HWA.out.new (below1 _ _)).pg.k4, cell_row ((HWA.out.new (below1 _ _)).blk k HXR.out) 0, cell_row ((HWA.out.new (below1 _ _)).blk 0 HBR.out) 0, cell_row ((HWA.out.new (below1 _ _)).blk 0 HBR.out) 1, cell_row ((HWA.out.new (below1 _ _)).blk 0 HBR.out) 2, cell_row ((HWA.out.new (below1 _ _)).blk 0 HBR.out) 6, cell_row ((HWA.out.new (below1 _ _)).blk 0 HBR.out) 7⟩) | (exact ⟨by rw [← HTS.out]; exact ((H2.out.new (Below.refl _ _).drew).new (below1 _ _)).pg.k4, cell_row (((H2.out.new (Below.refl _ _).drew).new (below1 _ _)).blk k HXR.out) 0, cell_row (((H2.out.new (Below.refl _ _).drew).new (below1 _ _)).blk 0 HBR.out) 0, cell_row (((H2.out.new (Below.refl _ _).drew).new (below1 _ _)).blk 0 HBR.out) 1, cell_row (((H2.out.new (Below.refl _ _).drew).new (below1 _ _)).blk 0 HBR.out) 2, cell_row (((H2.out.new (Below.refl _ _).drew).new (below1 _ _)).blk 0 HBR.out) 6, cell_row (((H2.out.new (Below.refl _ _).drew).new (below1 _ _)).blk 0 HBR.out) 7⟩)
      clear hKq Kq
      (try simp only [Act.put, List.setIfInBounds_toArray, List.set_cons_zero, List.set_cons_succ])
      (first | (have HBE := Lib.hid (HBQ.out.trans ((below1 w3 (.cells #[.int .i64 (D.t : Int), .int .u32 (D.k : Int), .int .u64 (D.z : Int)] 112)).mono HBQ.out.size)); have HRE := Lib.hid (S10.rd_one w3 (entD D) 112); have HRQ2 := Lib.hid (HRQ.out.new (below1 w3 (.cells #[.int .i64 (D.t : Int), .int .u32 (D.k : Int), .int .u64 (D.z : Int)] 112)))) | (have HBE := Lib.hid ((Below.refl _ w2).drew.trans (below1 w2.drew (.cells #[.int .i64 (D.t : Int), .int .u32 (D.k : Int), .int .u64 (D.z : Int)] 112))); have HRE := Lib.hid (S10.rd_one w2.drew (entD D) 112)))
      (have g1 := HBE.out; have g2 := HRQ2.out.rd; have g3 : S10.Rd (w3.alloc (.cells #[.int .i64 (D.t : Int), .int .u32 (D.k : Int), .int .u64 (D.z : Int)] 112)) (w3.alloc (.cells #[.int .i64 (D.t : Int), .int .u32 (D.k : Int), .int .u64 (D.z : Int)] 112)).heap.size (some ⟨w3.heap.size, 0, none⟩) (S10.flat [entD D]) := HRE.out.more (show w3.heap.size + 1 ≤ (w3.alloc (.cells #[.int .i64 (D.t : Int), .int .u32 (D.k : Int), .int .u64 (D.z : Int)] 112)).heap.size by simp); generalize w3.alloc (.cells #[.int .i64 (D.t : Int), .int .u32 (D.k : Int), .int .u64 (D.z : Int)] 112) = W6 at g1 g2 g3 ⊢; generalize w3.heap.size = NB6 at g3 ⊢; exact REST _ _ _ ⟨g1, g2, g3⟩)
    refine AllReadyH.cons (o := ({ dst := some 24, op := Op.buildSlice 109 1 #[(0, Operand.tmp 23)], type := 109, pos := "parts.go:63", after := #[{ on := 12, ground := Ground.data }], guard := none } : Oper)) rfl (fun Kq hKq => ?_) AllReadyH.nil
    go_simp
    refine hKq.out _ _ ?_ (fun hHeld => ?_)
    · first | (exact ⟨by rw [← HTS.out]; exact (HWA.out.new (below1 _ _)).pg.k4, cell_row ((HWA.out.new (below1 _ _)).blk k HXR.out) 0, cell_row ((HWA.out.new (below1 _ _)).blk 0 HBR.out) 0, cell_row ((HWA.out.new (below1 _ _)).blk 0 HBR.out) 1, cell_row ((HWA.out.new (below1 _ _)).blk 0 HBR.out) 2, cell_row ((HWA.out.new (below1 _ _)).blk 0 HBR.out) 6, cell_row ((HWA.out.new (below1 _ _)).blk 0 HBR.out) 7⟩) | (exact ⟨by rw [← HTS.out]; exact ((H2.out.new (Below.refl _ _).drew).new (below1 _ _)).pg.k4, cell_row (((H2.out.new (Below.refl _ _).drew).new (below1 _ _)).blk k HXR.out) 0, cell_row (((H2.out.new (Below.refl _ _).drew).new (below1 _ _)).blk 0 HBR.out) 0, cell_row (((H2.out.new (Below.refl _ _).drew).new (below1 _ _)).blk 0 HBR.out) 1, cell_row (((H2.out.new (Below.refl _ _).drew).new (below1 _ _)).blk 0 HBR.out) 2, cell_row (((H2.out.new (Below.refl _ _).drew).new (below1 _ _)).blk 0 HBR.out) 6, cell_row (((H2.out.new (Below.refl _ _).drew).new (below1 _ _)).blk 0 HBR.out) 7⟩)
    clear hKq Kq
    (try simp only [Act.put, List.setIfInBounds_toArray, List.set_cons_zero, List.set_cons_succ])
    (first | (have HBE := Lib.hid (HBQ.out.trans ((below1 w3 (.cells #[.int .i64 (D.t : Int), .int .u32 (D.k : Int), .int .u64 (D.z : Int)] 112)).mono HBQ.out.size)); have HRE := Lib.hid (S10.rd_one w3 (entD D) 112); have HRQ2 := Lib.hid (HRQ.out.new (below1 w3 (.cells #[.int .i64 (D.t : Int), .int .u32 (D.k : Int), .int .u64 (D.z : Int)] 112)))) | (have HBE := Lib.hid ((Below.refl _ w2).drew.trans (below1 w2.drew (.cells #[.int .i64 (D.t : Int), .int .u32 (D.k : Int), .int .u64 (D.z : Int)] 112))); have HRE := Lib.hid (S10.rd_one w2.drew (entD D) 112)))
    refine wpAnyH_ready (rs := [8]) (by kernel_rfl) (by simp) ?_
    refine AllReadyH.cons (o := ({ dst := some 19, op := Op.call { callee := Callee.value (Operand.func 38), args := #[Operand.tmp 14, Operand.tmp 18], argTypes := #[43, 97] }, type := 109, pos := "parts.go:63", after := #[{ on := 3, ground := Ground.data }, { on := 7, ground := Ground.data }], guard := none } : Oper)) rfl (fun Kq hKq => ?_) AllReadyH.nil
    go_simp
    (first | (refine (HQ.out _ (Below.refl _ _).drew).mono ?_; rintro e' w3 ⟨A3, rfl, hr3, hb3⟩; have HBQ := Lib.hid ((Below.refl _ _).drew.trans hb3); have HRQ := Lib.hid hr3; have HWA := Lib.hid (H2.out.new HBQ.out); clear hr3 hb3) | (refine (HQ.out _ HBE.out).mono ?_; rintro e' w4 ⟨A3, rfl, hr3, hb3⟩; have HBQ := Lib.hid (HBE.out.trans (hb3.mono HBE.out.size)); have HRQ := Lib.hid hr3; have HB3 := Lib.hid hb3; have HWB := Lib.hid (H2.out.new HBQ.out); clear hr3 hb3))
    refine hKq.out _ _ ?_ (fun hHeld => ?_)
    · first | (exact ⟨by rw [← HTS.out]; exact HWA.out.pg.k4, cell_row (HWA.out.blk k HXR.out) 0, cell_row (HWA.out.blk 0 HBR.out) 0, cell_row (HWA.out.blk 0 HBR.out) 1, cell_row (HWA.out.blk 0 HBR.out) 2, cell_row (HWA.out.blk 0 HBR.out) 6, cell_row (HWA.out.blk 0 HBR.out) 7⟩) | (exact ⟨by rw [← HTS.out]; exact HWB.out.pg.k4, cell_row (HWB.out.blk k HXR.out) 0, cell_row (HWB.out.blk 0 HBR.out) 0, cell_row (HWB.out.blk 0 HBR.out) 1, cell_row (HWB.out.blk 0 HBR.out) 2, cell_row (HWB.out.blk 0 HBR.out) 6, cell_row (HWB.out.blk 0 HBR.out) 7⟩)
    clear hKq Kq
    (try simp only [Act.put, List.setIfInBounds_toArray, List.set_cons_zero, List.set_cons_succ])
    (have g1 := HBQ.out; have g2 := HRQ.out.rd; have g3 : S10.Rd w4 w4.heap.size (some ⟨w2.heap.size, 0, none⟩) (S10.flat [entD D]) := (HRE.out.below HB3.out (by simp)).more (by have := HB3.out.size; simp at this; simp; omega); generalize w2.heap.size = NB6 at g3 ⊢; exact REST _ _ _ ⟨g1, g2, g3⟩)
  intro A5 NB5 W5 hT
  have HT := Lib.hid hT
  have hHeld : (fun w' => w'.cell? ⟨WB, 4, none⟩ = some ts ∧ w'.cell? ⟨XB, 0, none⟩ = some (Pw B) ∧ w'.cell? ⟨B, 0, none⟩ = some (.int .i64 (D.t : Int)) ∧ w'.cell? ⟨B, 1, none⟩ = some (.int .u32 (D.k : Int)) ∧ w'.cell? ⟨B, 2, none⟩ = some (.int .u64 (D.z : Int)) ∧ w'.cell? ⟨B, 6, none⟩ = some (.int .i64 pb) ∧ w'.cell? ⟨B, 7, none⟩ = some (.int .i64 (pi : Int))) W5 := ⟨by rw [← HTS.out]; exact (H2.out.new HT.out.1).pg.k4, cell_row ((H2.out.new HT.out.1).blk k HXR.out) 0, cell_row ((H2.out.new HT.out.1).blk 0 HBR.out) 0, cell_row ((H2.out.new HT.out.1).blk 0 HBR.out) 1, cell_row ((H2.out.new HT.out.1).blk 0 HBR.out) 2, cell_row ((H2.out.new HT.out.1).blk 0 HBR.out) 6, cell_row ((H2.out.new HT.out.1).blk 0 HBR.out) 7⟩
  clear hT
  refine wpAnyH_ready (rs := [19]) (by kernel_rfl) (by simp) ?_
  refine AllReadyH.cons (o := ({ dst := some 30, op := Op.call { callee := Callee.value (Operand.func 184), args := #[Operand.tmp 19, Operand.tmp 24, Operand.tmp 29], argTypes := #[109, 109, 35] }, type := 109, pos := "parts.go:63", after := #[{ on := 8, ground := Ground.data }, { on := 13, ground := Ground.data }, { on := 18, ground := Ground.data }, { on := 8, ground := Ground.chain }], guard := none } : Oper)) rfl (fun Kq hKq => ?_) AllReadyH.nil
  go_simp
  (refine (S10.moved_any (D := q) (M := [entD D]) _ _ (D.k : Int) HT.out.2.1 HT.out.2.2 (Nat.le_refl _) (Nat.le_refl _) (by rw [HQL.out]; have := HK.out.2.2.2.2.2.2.1; omega) (by show 1 ≤ 2000; omega)).mono ?_; rintro e' w6 ⟨A6, rfl, hr6, hb6⟩; have HB6 := Lib.hid (HT.out.1.trans (hb6.mono HT.out.1.size)); have HR6 := Lib.hid hr6; clear hr6 hb6)
  refine hKq.out _ _ ?_ (fun hHeld => ?_)
  · exact ⟨by rw [← HTS.out]; exact (H2.out.new HB6.out).pg.k4, cell_row ((H2.out.new HB6.out).blk k HXR.out) 0, cell_row ((H2.out.new HB6.out).blk 0 HBR.out) 0, cell_row ((H2.out.new HB6.out).blk 0 HBR.out) 1, cell_row ((H2.out.new HB6.out).blk 0 HBR.out) 2, cell_row ((H2.out.new HB6.out).blk 0 HBR.out) 6, cell_row ((H2.out.new HB6.out).blk 0 HBR.out) 7⟩
  clear hKq Kq
  (try simp only [Act.put, List.setIfInBounds_toArray, List.set_cons_zero, List.set_cons_succ])
  refine wpAnyH_take (i := 20) (oi := ({ dst := some 3, op := Op.assign (Operand.tmp 30), type := 109, pos := "parts.go:63", after := #[{ on := 19, ground := Ground.data }, { on := 19, ground := Ground.chain }, { on := 0, ground := Ground.phase }, { on := 1, ground := Ground.phase }, { on := 2, ground := Ground.phase }, { on := 3, ground := Ground.phase }, { on := 4, ground := Ground.phase }, { on := 5, ground := Ground.phase }, { on := 6, ground := Ground.phase }, { on := 7, ground := Ground.phase }, { on := 8, ground := Ground.phase }, { on := 9, ground := Ground.phase }, { on := 10, ground := Ground.phase }, { on := 11, ground := Ground.phase }, { on := 12, ground := Ground.phase }, { on := 13, ground := Ground.phase }, { on := 14, ground := Ground.phase }, { on := 15, ground := Ground.phase }, { on := 16, ground := Ground.phase }, { on := 17, ground := Ground.phase }, { on := 18, ground := Ground.phase }, { on := 19, ground := Ground.phase }], guard := none } : Oper)) (v := ?vqbm19) rfl (by kernel_rfl) (by kernel_rfl) (by kernel_rfl) (fun _ _ _ h => h) (Or.inl ⟨by rfl, fun w hSw => ?hyqbm19⟩) (by assumption) ?rqbm19
  case hyqbm19 => (try dsimp only at hSw); go_simp; (try with_reducible rfl)
  (try simp only [Act.put, List.setIfInBounds_toArray, List.set_cons_zero, List.set_cons_succ])
  refine wpAnyH_done (by kernel_rfl) ?_ _
  clear hHeld
  have H6 := Lib.hid (H2.out.new HB6.out)
  have hml : S10.movedL q [entD D] (D.k : Int) = qAt M pb pi ++ [entD D] := by rw [HQL.out]; rfl
  have hput : Calls Tryz.prog 50 #[ts, .agg #[.int .i64 pb, .int .i64 (pi : Int)], .slice A6 (S10.movedL q [entD D] (D.k : Int)).length (S10.movedL q [entD D] (D.k : Int)).length] w6.drew fun e w' => e = .returned (.bool true) ∧ ∃ X', Pg w0 w' base WB ((M.prep (2 * D.t)).putq pb pi (qAt M pb pi ++ [entD D])) (r.set j (rowsP l)) X' ∧ X'.ts = ts := by
    have := (H6.out.new (Below.refl _ _).drew).pg.put (b := pb) HK.out.2.2.2.2.1 (i := pi) HK.out.2.2.2.2.2.1 (D := S10.movedL q [entD D] (D.k : Int)) (c0 := (S10.movedL q [entD D] (D.k : Int)).length) HR6.out.rd (Nat.le_refl _) (by rw [hml, List.length_append]; have := HK.out.2.2.2.2.2.2.1; show _ + 1 ≤ _; omega)
    rw [HTS.out] at this
    rw [← hml]
    exact this
  have HPUT := Lib.hid hput
  clear hput hml
  generalize (S10.movedL q [entD D] (D.k : Int)).length = nl at *
  go_upto_region 2 with fail
  refine wp_region_held_drew (S := fun w' => w'.cell? ⟨WB, 4, none⟩ = some ts ∧ w'.cell? ⟨XB, 0, none⟩ = some (Pw B) ∧ w'.cell? ⟨B, 6, none⟩ = some (.int .i64 pb) ∧ w'.cell? ⟨B, 7, none⟩ = some (.int .i64 (pi : Int))) (by kernel_rfl) ?_ (fun hHeld => ?_)
  · exact ⟨by rw [← HTS.out]; exact (H6.out.new (Below.refl _ _).drew).pg.k4, cell_row ((H6.out.new (Below.refl _ _).drew).blk k HXR.out) 0, cell_row ((H6.out.new (Below.refl _ _).drew).blk 0 HBR.out) 6, cell_row ((H6.out.new (Below.refl _ _).drew).blk 0 HBR.out) 7⟩
  refine wpAnyH_take (i := 0) (oi := ({ dst := some 31, op := Op.move (Operand.tmp 0), type := 24, pos := "parts.go:64", after := #[], guard := none } : Oper)) (v := ?vqcm1) rfl (by kernel_rfl) (by kernel_rfl) (by kernel_rfl) (fun _ _ _ h => h) (Or.inl ⟨by rfl, fun w hSw => ?hyqcm1⟩) (by assumption) ?rqcm1
  case hyqcm1 => (try dsimp only at hSw); go_simp; (try with_reducible rfl)
  (try simp only [Act.put, List.setIfInBounds_toArray, List.set_cons_zero, List.set_cons_succ])
  refine wpAnyH_take (i := 1) (oi := ({ dst := some 32, op := Op.nilCheck (Operand.tmp 31), type := 0, pos := "parts.go:64", after := #[{ on := 0, ground := Ground.data }], guard := none } : Oper)) (v := ?vqcm2) rfl (by kernel_rfl) (by kernel_rfl) (by kernel_rfl) (fun _ _ _ h => h) (Or.inl ⟨by rfl, fun w hSw => ?hyqcm2⟩) (by assumption) ?rqcm2
  case hyqcm2 => (try dsimp only at hSw); go_simp; (try with_reducible rfl)
  (try simp only [Act.put, List.setIfInBounds_toArray, List.set_cons_zero, List.set_cons_succ])
  refine wpAnyH_take (i := 2) (oi := ({ dst := some 33, op := Op.fieldAddr 47 (Operand.tmp 32) 4, type := 0, pos := "parts.go:64", after := #[{ on := 1, ground := Ground.data }], guard := none } : Oper)) (v := ?vqcm3) rfl (by kernel_rfl) (by kernel_rfl) (by kernel_rfl) (fun _ _ _ h => h) (Or.inl ⟨by rfl, fun w hSw => ?hyqcm3⟩) (by assumption) ?rqcm3
  case hyqcm3 => (try dsimp only at hSw); go_simp; (try with_reducible rfl)
  (try simp only [Act.put, List.setIfInBounds_toArray, List.set_cons_zero, List.set_cons_succ])
  refine wpAnyH_take (i := 3) (oi := ({ dst := some 34, op := Op.load 43 (Operand.tmp 33), type := 43, pos := "parts.go:64", after := #[{ on := 2, ground := Ground.data }], guard := none } : Oper)) (v := ?vqcm4) rfl (by kernel_rfl) (by kernel_rfl) (by kernel_rfl) (fun _ _ _ h => h) (Or.inl ⟨by rfl, fun w hSw => ?hyqcm4⟩) (by assumption) ?rqcm4
  case hyqcm4 => (try dsimp only at hSw); go_simp; (try with_reducible rfl)
  (try simp only [Act.put, List.setIfInBounds_toArray, List.set_cons_zero, List.set_cons_succ])
  refine wpAnyH_take (i := 4) (oi := ({ dst := some 35, op := Op.load 32 (Operand.tmp 1), type := 32, pos := "parts.go:64", after := #[], guard := none } : Oper)) (v := ?vqcm5) rfl (by kernel_rfl) (by kernel_rfl) (by kernel_rfl) (fun _ _ _ h => h) (Or.inl ⟨by rfl, fun w hSw => ?hyqcm5⟩) (by assumption) ?rqcm5
  case hyqcm5 => (try dsimp only at hSw); go_simp; (try with_reducible rfl)
  (try simp only [Act.put, List.setIfInBounds_toArray, List.set_cons_zero, List.set_cons_succ])
  refine wpAnyH_take (i := 5) (oi := ({ dst := some 36, op := Op.nilCheck (Operand.tmp 35), type := 0, pos := "parts.go:64", after := #[{ on := 4, ground := Ground.data }], guard := none } : Oper)) (v := ?vqcm6) rfl (by kernel_rfl) (by kernel_rfl) (by kernel_rfl) (fun _ _ _ h => h) (Or.inl ⟨by rfl, fun w hSw => ?hyqcm6⟩) (by assumption) ?rqcm6
  case hyqcm6 => (try dsimp only at hSw); go_simp; (try with_reducible rfl)
  (try simp only [Act.put, List.setIfInBounds_toArray, List.set_cons_zero, List.set_cons_succ])
  refine wpAnyH_take (i := 6) (oi := ({ dst := some 37, op := Op.fieldAddr 116 (Operand.tmp 36) 3, type := 0, pos := "parts.go:64", after := #[{ on := 5, ground := Ground.data }], guard := none } : Oper)) (v := ?vqcm7) rfl (by kernel_rfl) (by kernel_rfl) (by kernel_rfl) (fun _ _ _ h => h) (Or.inl ⟨by rfl, fun w hSw => ?hyqcm7⟩) (by assumption) ?rqcm7
  case hyqcm7 => (try dsimp only at hSw); go_simp; (try with_reducible rfl)
  (try simp only [Act.put, List.setIfInBounds_toArray, List.set_cons_zero, List.set_cons_succ])
  refine wpAnyH_take (i := 7) (oi := ({ dst := some 38, op := Op.load 97 (Operand.tmp 37), type := 97, pos := "parts.go:64", after := #[{ on := 6, ground := Ground.data }], guard := none } : Oper)) (v := ?vqcm8) rfl (by kernel_rfl) (by kernel_rfl) (by kernel_rfl) (fun _ _ _ h => h) (Or.inl ⟨by rfl, fun w hSw => ?hyqcm8⟩) (by assumption) ?rqcm8
  case hyqcm8 => (try dsimp only at hSw); go_simp; (try with_reducible rfl)
  (try simp only [Act.put, List.setIfInBounds_toArray, List.set_cons_zero, List.set_cons_succ])
  refine wpAnyH_take (i := 8) (oi := ({ dst := some 39, op := Op.move (Operand.tmp 3), type := 109, pos := "parts.go:64", after := #[], guard := none } : Oper)) (v := ?vqcm9) rfl (by kernel_rfl) (by kernel_rfl) (by kernel_rfl) (fun _ _ _ h => h) (Or.inl ⟨by rfl, fun w hSw => ?hyqcm9⟩) (by assumption) ?rqcm9
  case hyqcm9 => (try dsimp only at hSw); go_simp; (try with_reducible rfl)
  (try simp only [Act.put, List.setIfInBounds_toArray, List.set_cons_zero, List.set_cons_succ])
  refine wpAnyH_ready (rs := [9]) (by kernel_rfl) (by simp) ?_
  refine AllReadyH.cons (o := ({ dst := some 40, op := Op.call { callee := Callee.value (Operand.func 50), args := #[Operand.tmp 34, Operand.tmp 38, Operand.tmp 39], argTypes := #[43, 97, 109] }, type := 4, pos := "parts.go:64", after := #[{ on := 3, ground := Ground.data }, { on := 7, ground := Ground.data }, { on := 8, ground := Ground.data }], guard := none } : Oper)) rfl (fun Kq hKq => ?_) AllReadyH.nil
  go_simp
  (refine HPUT.out.mono ?_; rintro e' w7 ⟨rfl, X7, h7, hts⟩; have H7 := Lib.hid (H6.out.pgq h7); have HTS7 := Lib.hid hts; clear h7 hts)
  refine hKq.out _ _ ?_ (fun hHeld => ?_)
  · exact ⟨by rw [← HTS7.out]; exact H7.out.pg.k4, cell_row (H7.out.blk k HXR.out) 0, cell_row (H7.out.blk 0 HBR.out) 6, cell_row (H7.out.blk 0 HBR.out) 7⟩
  clear hKq Kq
  (try simp only [Act.put, List.setIfInBounds_toArray, List.set_cons_zero, List.set_cons_succ])
  refine wpAnyH_done (by kernel_rfl) ?_ _
  clear hHeld
  have hnt := (H7.out.new (Below.refl _ _).drew).pg.note (t := (D.t : Int)) (a := (D.k : Int)) (k := 1) (by have := HK.out.1; show M.n ≤ _; omega) (by have := HK.out.2.1; show M.pn + 1 ≤ _; omega) (by have := HK.out.2.2.2.2.2.2.2; show M.nD.length ≤ _; omega) (HK.out.2.2.1.below ((H7.out.new (Below.refl _ _).drew).pg.bl) HK.out.2.2.2.1) (by omega)
  have HNT := Lib.hid hnt
  clear hnt
  go_upto_region 3 with fail
  refine wp_region_held_drew (S := fun w' => w'.cell? ⟨XB, 0, none⟩ = some (Pw B) ∧ w'.cell? ⟨B, 0, none⟩ = some (.int .i64 (D.t : Int)) ∧ w'.cell? ⟨B, 1, none⟩ = some (.int .u32 (D.k : Int))) (by kernel_rfl) ?_ (fun hHeld => ?_)
  · exact ⟨cell_row ((H7.out.new (Below.refl _ _).drew).blk k HXR.out) 0, cell_row ((H7.out.new (Below.refl _ _).drew).blk 0 HBR.out) 0, cell_row ((H7.out.new (Below.refl _ _).drew).blk 0 HBR.out) 1⟩
  refine wpAnyH_take (i := 0) (oi := ({ dst := some 41, op := Op.move (Operand.tmp 0), type := 24, pos := "parts.go:65", after := #[], guard := none } : Oper)) (v := ?vqdm1) rfl (by kernel_rfl) (by kernel_rfl) (by kernel_rfl) (fun _ _ _ h => h) (Or.inl ⟨by rfl, fun w hSw => ?hyqdm1⟩) (by assumption) ?rqdm1
  case hyqdm1 => (try dsimp only at hSw); go_simp; (try with_reducible rfl)
  (try simp only [Act.put, List.setIfInBounds_toArray, List.set_cons_zero, List.set_cons_succ])
  refine wpAnyH_take (i := 1) (oi := ({ dst := some 42, op := Op.load 32 (Operand.tmp 1), type := 32, pos := "parts.go:65", after := #[], guard := none } : Oper)) (v := ?vqdm2) rfl (by kernel_rfl) (by kernel_rfl) (by kernel_rfl) (fun _ _ _ h => h) (Or.inl ⟨by rfl, fun w hSw => ?hyqdm2⟩) (by assumption) ?rqdm2
  case hyqdm2 => (try dsimp only at hSw); go_simp; (try with_reducible rfl)
  (try simp only [Act.put, List.setIfInBounds_toArray, List.set_cons_zero, List.set_cons_succ])
  refine wpAnyH_take (i := 2) (oi := ({ dst := some 43, op := Op.nilCheck (Operand.tmp 42), type := 0, pos := "parts.go:65", after := #[{ on := 1, ground := Ground.data }], guard := none } : Oper)) (v := ?vqdm3) rfl (by kernel_rfl) (by kernel_rfl) (by kernel_rfl) (fun _ _ _ h => h) (Or.inl ⟨by rfl, fun w hSw => ?hyqdm3⟩) (by assumption) ?rqdm3
  case hyqdm3 => (try dsimp only at hSw); go_simp; (try with_reducible rfl)
  (try simp only [Act.put, List.setIfInBounds_toArray, List.set_cons_zero, List.set_cons_succ])
  refine wpAnyH_take (i := 3) (oi := ({ dst := some 44, op := Op.fieldAddr 116 (Operand.tmp 43) 0, type := 0, pos := "parts.go:65", after := #[{ on := 2, ground := Ground.data }], guard := none } : Oper)) (v := ?vqdm4) rfl (by kernel_rfl) (by kernel_rfl) (by kernel_rfl) (fun _ _ _ h => h) (Or.inl ⟨by rfl, fun w hSw => ?hyqdm4⟩) (by assumption) ?rqdm4
  case hyqdm4 => (try dsimp only at hSw); go_simp; (try with_reducible rfl)
  (try simp only [Act.put, List.setIfInBounds_toArray, List.set_cons_zero, List.set_cons_succ])
  refine wpAnyH_take (i := 4) (oi := ({ dst := some 45, op := Op.fieldAddr 112 (Operand.tmp 44) 0, type := 0, pos := "parts.go:65", after := #[{ on := 3, ground := Ground.data }], guard := none } : Oper)) (v := ?vqdm5) rfl (by kernel_rfl) (by kernel_rfl) (by kernel_rfl) (fun _ _ _ h => h) (Or.inl ⟨by rfl, fun w hSw => ?hyqdm5⟩) (by assumption) ?rqdm5
  case hyqdm5 => (try dsimp only at hSw); go_simp; (try with_reducible rfl)
  (try simp only [Act.put, List.setIfInBounds_toArray, List.set_cons_zero, List.set_cons_succ])
  refine wpAnyH_take (i := 5) (oi := ({ dst := some 46, op := Op.load 3 (Operand.tmp 45), type := 3, pos := "parts.go:65", after := #[{ on := 4, ground := Ground.data }], guard := none } : Oper)) (v := ?vqdm6) rfl (by kernel_rfl) (by kernel_rfl) (by kernel_rfl) (fun _ _ _ h => h) (Or.inl ⟨by rfl, fun w hSw => ?hyqdm6⟩) (by assumption) ?rqdm6
  case hyqdm6 => (try dsimp only at hSw); go_simp; (try with_reducible rfl)
  (try simp only [Act.put, List.setIfInBounds_toArray, List.set_cons_zero, List.set_cons_succ])
  refine wpAnyH_take (i := 6) (oi := ({ dst := some 47, op := Op.load 32 (Operand.tmp 1), type := 32, pos := "parts.go:65", after := #[], guard := none } : Oper)) (v := ?vqdm7) rfl (by kernel_rfl) (by kernel_rfl) (by kernel_rfl) (fun _ _ _ h => h) (Or.inl ⟨by rfl, fun w hSw => ?hyqdm7⟩) (by assumption) ?rqdm7
  case hyqdm7 => (try dsimp only at hSw); go_simp; (try with_reducible rfl)
  (try simp only [Act.put, List.setIfInBounds_toArray, List.set_cons_zero, List.set_cons_succ])
  refine wpAnyH_take (i := 7) (oi := ({ dst := some 48, op := Op.nilCheck (Operand.tmp 47), type := 0, pos := "parts.go:65", after := #[{ on := 6, ground := Ground.data }], guard := none } : Oper)) (v := ?vqdm8) rfl (by kernel_rfl) (by kernel_rfl) (by kernel_rfl) (fun _ _ _ h => h) (Or.inl ⟨by rfl, fun w hSw => ?hyqdm8⟩) (by assumption) ?rqdm8
  case hyqdm8 => (try dsimp only at hSw); go_simp; (try with_reducible rfl)
  (try simp only [Act.put, List.setIfInBounds_toArray, List.set_cons_zero, List.set_cons_succ])
  refine wpAnyH_take (i := 8) (oi := ({ dst := some 49, op := Op.fieldAddr 116 (Operand.tmp 48) 0, type := 0, pos := "parts.go:65", after := #[{ on := 7, ground := Ground.data }], guard := none } : Oper)) (v := ?vqdm9) rfl (by kernel_rfl) (by kernel_rfl) (by kernel_rfl) (fun _ _ _ h => h) (Or.inl ⟨by rfl, fun w hSw => ?hyqdm9⟩) (by assumption) ?rqdm9
  case hyqdm9 => (try dsimp only at hSw); go_simp; (try with_reducible rfl)
  (try simp only [Act.put, List.setIfInBounds_toArray, List.set_cons_zero, List.set_cons_succ])
  refine wpAnyH_take (i := 9) (oi := ({ dst := some 50, op := Op.fieldAddr 112 (Operand.tmp 49) 1, type := 0, pos := "parts.go:65", after := #[{ on := 8, ground := Ground.data }], guard := none } : Oper)) (v := ?vqdm10) rfl (by kernel_rfl) (by kernel_rfl) (by kernel_rfl) (fun _ _ _ h => h) (Or.inl ⟨by rfl, fun w hSw => ?hyqdm10⟩) (by assumption) ?rqdm10
  case hyqdm10 => (try dsimp only at hSw); go_simp; (try with_reducible rfl)
  (try simp only [Act.put, List.setIfInBounds_toArray, List.set_cons_zero, List.set_cons_succ])
  refine wpAnyH_take (i := 10) (oi := ({ dst := some 51, op := Op.load 35 (Operand.tmp 50), type := 35, pos := "parts.go:65", after := #[{ on := 9, ground := Ground.data }], guard := none } : Oper)) (v := ?vqdm11) rfl (by kernel_rfl) (by kernel_rfl) (by kernel_rfl) (fun _ _ _ h => h) (Or.inl ⟨by rfl, fun w hSw => ?hyqdm11⟩) (by assumption) ?rqdm11
  case hyqdm11 => (try dsimp only at hSw); go_simp; (try with_reducible rfl)
  (try simp only [Act.put, List.setIfInBounds_toArray, List.set_cons_zero, List.set_cons_succ])
  refine wpAnyH_ready (rs := [11]) (by kernel_rfl) (by simp) ?_
  refine AllReadyH.cons (o := ({ dst := some 52, op := Op.call { callee := Callee.value (Operand.func 185), args := #[Operand.tmp 41, Operand.tmp 46, Operand.const (Value.int IntKind.u8 1), Operand.tmp 51], argTypes := #[24, 3, 272, 35] }, type := 0, pos := "parts.go:65", after := #[{ on := 0, ground := Ground.data }, { on := 5, ground := Ground.data }, { on := 10, ground := Ground.data }], guard := none } : Oper)) rfl (fun Kq hKq => ?_) AllReadyH.nil
  go_simp
  (refine HNT.out.mono ?_; rintro e' w8 ⟨rfl, X8, h8⟩; have H8 := Lib.hid (H7.out.pgq h8); clear h8)
  refine hKq.out _ _ ?_ (fun hHeld => ?_)
  · exact ⟨cell_row (H8.out.blk k HXR.out) 0, cell_row (H8.out.blk 0 HBR.out) 0, cell_row (H8.out.blk 0 HBR.out) 1⟩
  clear hKq Kq
  (try simp only [Act.put, List.setIfInBounds_toArray, List.set_cons_zero, List.set_cons_succ])
  refine wpAnyH_done (by kernel_rfl) ?_ _
  go_end0
  exact ⟨rfl, X8, H8.out⟩
end
end Go.Proofs.YtjppncglkijbjaaGreatDoor.S18
