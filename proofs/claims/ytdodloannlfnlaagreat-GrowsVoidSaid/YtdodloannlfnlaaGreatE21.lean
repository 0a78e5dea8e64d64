/- Texts of this seat, one behind the other. -/
import Derived.Test.YtdodloannlfnlaaGreatE18
import Derived.Test.YtdodloannlfnlaaGreatE20
import Derived.Deep.RegionHeld3
import Derived.LoopTactic
import Derived.Deep.LoopGhost
set_option linter.unusedVariables false
set_option linter.unusedSimpArgs false
namespace Go.Proofs.YtdodloannlfnlaaGreat.S12
open Go.Proofs.YtdodloannlfnlaaGreat Go.Proofs.YtdodloannlfnlaaGreat.S11
open Go.RowKit

noncomputable def pcells (a b c d e f : Value) (spin : Int) : Array Value := ((((((Tryz.zeroCells60.setIfInBounds 0 a).setIfInBounds 1 b).setIfInBounds 2 c).setIfInBounds 3 d).setIfInBounds 4 e).setIfInBounds 5 f).setIfInBounds 6 (.int .i64 spin)
theorem zsize : Tryz.zeroCells60.size = 71 := by kernel_rfl
theorem pc0 (a b c d e f : Value) (sp : Int) : (pcells a b c d e f sp)[0]? = some a := by
  simp [pcells, Array.getElem?_setIfInBounds, zsize]
theorem pc1 (a b c d e f : Value) (sp : Int) : (pcells a b c d e f sp)[1]? = some b := by
  simp [pcells, Array.getElem?_setIfInBounds, zsize]
theorem pc2 (a b c d e f : Value) (sp : Int) : (pcells a b c d e f sp)[2]? = some c := by
  simp [pcells, Array.getElem?_setIfInBounds, zsize]
theorem pc3 (a b c d e f : Value) (sp : Int) : (pcells a b c d e f sp)[3]? = some d := by
  simp [pcells, Array.getElem?_setIfInBounds, zsize]
theorem pc4 (a b c d e f : Value) (sp : Int) : (pcells a b c d e f sp)[4]? = some e := by
  simp [pcells, Array.getElem?_setIfInBounds, zsize]
theorem pc5 (a b c d e f : Value) (sp : Int) : (pcells a b c d e f sp)[5]? = some f := by
  simp [pcells, Array.getElem?_setIfInBounds, zsize]
theorem pc6 (a b c d e f : Value) (sp : Int) : (pcells a b c d e f sp)[6]? = some (.int .i64 sp) := by
  simp [pcells, Array.getElem?_setIfInBounds, zsize]
structure Wm where
  cB : Nat
  cM : Option Nat
  L : S2.LL
  n : Nat
  k : Nat
  a : Nat
  was : Nat
  is : Nat
  kb : Nat
  kB : Nat
  T : Nat
  most : Nat
  ks : Value
  D : List Nat
  pB : Nat
  pf : Nat → S4.Pk
  pn : Nat
  pk : Int
  pp : Int
  lB : Nat
  lk : S5.Lk
  tb : Nat
  tO : Nat → Option S10.Role
  ts : Value
  tn : Nat
  tM : Int → List S10.Bk
  nb : Nat
  nB : Nat
  ns : Value
  nD : List Nt
  wB : Nat
  sp : Int
abbrev Pw (B : Nat) : Value := .pointer (some ⟨B, 0, none⟩)
noncomputable def Wm.cs (X : Wm) : Array Value := pcells (Pw X.cB) (Pw X.kB) (Pw X.pB) (Pw X.lB) X.ts (Pw X.nB) X.sp
noncomputable def Wm.parts (X : Wm) : List Part := [cellsP X.cB X.cM X.L X.n X.k X.a X.was X.is, clockP X.kb X.kB X.T X.most X.ks X.D, permitsP X.pB X.pf (X.pn : Int) X.pk X.pp, linksP X.lB X.lk, tablesP X.tb X.tO X.ts X.tn X.tM, notesP 218 .u8 X.nb X.nB X.ns X.nD, blockP X.wB (.cells X.cs 60)]
def PW (w : World) (base : Nat) (X : Wm) : Prop := Parts w base X.parts
section
variable {w w' : World} {base : Nat} {X : Wm}
theorem PW.cells (h : PW w base X) : S2.CellsAt w X.cB X.cM X.L X.n X.k X.a X.was X.is := h.ok 0 _ rfl
theorem PW.clock (h : PW w base X) : S3.ClockAt w X.kb X.kB X.T X.most X.ks X.D := h.ok 1 _ rfl
theorem PW.permits (h : PW w base X) : S4.PkAt w X.pB X.pf (X.pn : Int) X.pk X.pp := h.ok 2 _ rfl
theorem PW.links (h : PW w base X) : S5.Has w X.lB X.lk := h.ok 3 _ rfl
theorem PW.tables (h : PW w base X) : S10.St w X.tb X.tO X.ts X.tn X.tM := h.ok 4 _ rfl
theorem PW.notes (h : PW w base X) : S11.LAt 218 .u8 w X.nb X.nB X.ns X.nD := h.ok 5 _ rfl
theorem PW.own (h : PW w base X) : w.heap[X.wB]? = some (.cells X.cs 60) := h.ok 6 _ rfl
theorem PW.new (h : PW w base X) (b : Below w.heap.size w w') : PW w' base X := Parts.new h b
theorem PW.drew (h : PW w base X) : PW w.drew base X := Parts.drew h
theorem PW.size (h : PW w base X) : base ≤ w.heap.size := Parts.size h
theorem PW.c0 (h : PW w base X) : w.cell? ⟨X.wB, 0, none⟩ = some (Pw X.cB) := (cell_row h.own 0).trans (pc0 _ _ _ _ _ _ _)
theorem PW.c1 (h : PW w base X) : w.cell? ⟨X.wB, 1, none⟩ = some (Pw X.kB) := (cell_row h.own 1).trans (pc1 _ _ _ _ _ _ _)
theorem PW.c2 (h : PW w base X) : w.cell? ⟨X.wB, 2, none⟩ = some (Pw X.pB) := (cell_row h.own 2).trans (pc2 _ _ _ _ _ _ _)
theorem PW.c3 (h : PW w base X) : w.cell? ⟨X.wB, 3, none⟩ = some (Pw X.lB) := (cell_row h.own 3).trans (pc3 _ _ _ _ _ _ _)
theorem PW.c4 (h : PW w base X) : w.cell? ⟨X.wB, 4, none⟩ = some X.ts := (cell_row h.own 4).trans (pc4 _ _ _ _ _ _ _)
theorem PW.c5 (h : PW w base X) : w.cell? ⟨X.wB, 5, none⟩ = some (Pw X.nB) := (cell_row h.own 5).trans (pc5 _ _ _ _ _ _ _)
theorem PW.c6 (h : PW w base X) : w.cell? ⟨X.wB, 6, none⟩ = some (.int .i64 X.sp) := (cell_row h.own 6).trans (pc6 _ _ _ _ _ _ _)
end
def Foot (X : Wm) (k : Nat) : Prop := ∃ (i : Nat) (p : Part), X.parts[i]? = some p ∧ p.fp k
theorem PW.foot_lt {w : World} {base : Nat} {X : Wm} (h : PW w base X) {k : Nat} (hk : Foot X k) : k < w.heap.size := by
  obtain ⟨i, p, hp, hf⟩ := hk
  exact p.lt w (h.ok i p hp) k hf
theorem PW.keep {S : Nat → Prop} {w w' : World} {base : Nat} {X : Wm} (h : PW w base X) (t : Turns S w w') (hs : ∀ k, Foot X k → ¬ S k) : PW w' base X :=
  Parts.kept h t (fun i p hp k hk => hs k ⟨i, p, hp, hk⟩)
set_option maxRecDepth 100000 in
set_option maxHeartbeats 4000000 in
theorem steps_any {w : World} {base : Nat} {X : Wm} (h : PW w base X) (h1 : X.n ≤ 1000000000) (h2 : X.pn ≤ 1000000000) :
    Calls Tryz.prog 63 #[Pw X.wB] w fun e w' => e = .returned (.int .i64 ((X.n + X.pn : Nat) : Int)) ∧ Below w.heap.size w w' := by
  have hmf : ∀ (fn : Fn) (first cap : Array Value) (w : World), (Instr.makeFunc fn first cap).run Tryz.prog w = .ok (.func fn first cap) w := fun _ _ _ _ => rfl
  have hi0 : ∀ (x y : Value) (w : World), (Instr.index 231 (.agg #[x, y]) (.int .i64 0)).run Tryz.prog w = .ok x w := fun _ _ _ => by kernel_rfl
  have hi1 : ∀ (x y : Value) (w : World), (Instr.index 231 (.agg #[x, y]) (.int .i64 1)).run Tryz.prog w = .ok y w := fun _ _ _ => by kernel_rfl
  have HC := Lib.hid (fun (W : World) (b : Below w.heap.size w W) => S2.count_any W X.cB X.cM X.L X.n X.k X.a X.was X.is (h.new b).cells)
  have HP := Lib.hid (fun (W : World) (b : Below w.heap.size w W) => S4.pcount_any (h.new b).permits)
  have c0 := h.c0; have c2 := h.c2
  clear h
  obtain ⟨cB, cM, L, n, k, a, was, is, kb, kB, T, most, ks, D, pB, pf, pn, pk, pp, lB, lk, tb, tO, ts, tn, tM, nb, nB, ns, nD, wB, sp⟩ := X
  dsimp only at *
  have hw1 : IntKind.i64.wrap (0 + (n : Int)) = (n : Int) := by rw [IntKind.wrap_i64]; omega
  have hw2 : IntKind.i64.wrap ((n : Int) + (pn : Int)) = ((n + pn : Nat) : Int) := by rw [IntKind.wrap_i64]; omega
  have HG1 : Hid (Value.int IntKind.i64 (wrap64 (n : Int)) = .int .i64 (n : Int)) := Lib.hid (by rw [show wrap64 (n : Int) = n from by unfold wrap64; omega])
  have HG2 : Hid (Value.int IntKind.i64 (wrap64 ((n : Int) + (pn : Int))) = .int .i64 ((n + pn : Nat) : Int)) := Lib.hid (by rw [show wrap64 ((n : Int) + (pn : Int)) = ((n + pn : Nat) : Int) from by unfold wrap64; omega])
  clear h1 h2 hw1 hw2
  generalize ((n + pn : Nat) : Int) = tot at *
  go_enter Tryz.func63, Tryz.ntmps63
  go_wp2_with fail
  go_quiet (fail)
  go_wp2_with fail
  have HB0 : Hid (Below w.heap.size w (w.drewN nq)) := Lib.hid ⟨rfl, rfl, rfl, Nat.le_refl _, fun _ _ => rfl⟩
  go_loopg [3, 5, 19] 2 (fun q s3 s5 s19 wx => Below w.heap.size w wx ∧ ((q = 2 ∧ s19 = .int .i64 0 ∧ s3 = .int .i64 0) ∨ (q = 1 ∧ s19 = .int .i64 1 ∧ s3 = .int .i64 (n : Int)) ∨ (q = 0 ∧ s19 = .int .i64 2 ∧ s3 = .int .i64 tot)))
  case atStart => exact ⟨HB0.out, .inl ⟨rfl, rfl, rfl⟩⟩
  case round =>
    obtain ⟨hb, h⟩ := hrel
    have HB := Lib.hid hb
    clear hb
    rcases h with ⟨rfl, rfl, rfl⟩ | ⟨rfl, rfl, rfl⟩ | ⟨rfl, rfl, rfl⟩
    · go_wp2_with (go_at_call 69; refine (HC.out _ HB.out).mono ?_; rintro e w' ⟨rfl, rfl⟩)
      go_roundg 1
      case measure => omega
      case rel => exact ⟨HB.out, .inr (.inl ⟨rfl, rfl, HG1.out⟩)⟩
    · go_wp2_with (go_at_call 101; refine (HP.out _ HB.out).mono ?_; rintro e w' ⟨rfl, rfl⟩)
      go_roundg 0
      case measure => omega
      case rel => exact ⟨HB.out, .inr (.inr ⟨rfl, rfl, HG2.out⟩)⟩
    · go_wp2_with fail
      go_ret
      exact ⟨rfl, HB.out⟩
end Go.Proofs.YtdodloannlfnlaaGreat.S12
namespace Go.Proofs.YtdodloannlfnlaaGreat.S12
open Go.Proofs.YtdodloannlfnlaaGreat Go.Proofs.YtdodloannlfnlaaGreat.S11
open Go.RowKit

end Go.Proofs.YtdodloannlfnlaaGreat.S12
