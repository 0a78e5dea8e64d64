/- Texts of this seat, one behind the other. -/
import Derived.Test.YtffoobepdofkkaaGreatMLawVoid18
import Derived.Test.YtffoobepdofkkaaGreatMLawVoid20
import Derived.Deep.RegionHeld3
import Derived.LoopTactic
import Derived.Deep.LoopGhost
namespace Go.Proofs.YtffoobepdofkkaaGreat.S12
open Go.Proofs.YtffoobepdofkkaaGreat Go.Proofs.YtffoobepdofkkaaGreat.S11
open Go.RowKit

noncomputable def pcells (a b c d e f : Value) (spin : Int) : Array Value := ((((((Tryz.zeroCells74.setIfInBounds 0 a).setIfInBounds 1 b).setIfInBounds 2 c).setIfInBounds 3 d).setIfInBounds 4 e).setIfInBounds 5 f).setIfInBounds 6 (.int .i64 spin)
theorem zsize : Tryz.zeroCells74.size = 71 := by kernel_rfl
theorem pc0 (a b c d e f : Value) (sp : Int) : (pcells a b c d e f sp)[0]? = some a := by
  simp [pcells, Array.getElem?_setIfInBounds, zsize]
theorem pc1 (a b c d e f : Value) (sp : Int) : (pcells a b c d e f sp)[1]? = some b := by
  simp [pcells, Array.getElem?_setIfInBounds, zsize]
theorem pc2 (a b c d e f : Value) (sp : Int) : (pcells a b c d e f sp)[2]? = some c := by
  simp [pcells, Array.getElem?_setIfInBounds, zsize]
theorem pc3 (a b c d e f : Value) (sp : Int) : (pcells a b c d e f sp)[3]? = some d := by
  simp [pcells, Array.getElem?_setIfInBounds, zsize]
theorem pc4 (a b c d e f : Value) (sp : Int) : (pcells a b c d e f sp)[4]? = some e := by
  simp [pcells, Array.getElem?_setIfInBounds, zsize]
theorem pc5 (a b c d e f : Value) (sp : Int) : (pcells a b c d e f sp)[5]? = some f := by
  simp [pcells, Array.getElem?_setIfInBounds, zsize]
theorem pc6 (a b c d e f : Value) (sp : Int) : (pcells a b c d e f sp)[6]? = some (.int .i64 sp) := by
  simp [pcells, Array.getElem?_setIfInBounds, zsize]
/-- Where the things of a world of the program's stand, and what they say. -/
structure Wm where
  cB : Nat
  cM : Option Nat
  L : S2.LL
  n : Nat
  k : Nat
  a : Nat
  was : Nat
  is : Nat
  kb : Nat
  kB : Nat
  T : Nat
  most : Nat
  ks : Value
  D : List Nat
  pB : Nat
  pf : Nat → S4.Pk
  pn : Nat
  pk : Int
  pp : Int
  lB : Nat
  lk : S5.Lk
  tb : Nat
  tO : Nat → Option S10.Role
  ts : Value
  tn : Nat
  tM : Int → List S10.Bk
  nb : Nat
  nB : Nat
  ns : Value
  nD : List Nt
  wB : Nat
  sp : Int
abbrev Pw (B : Nat) : Value := .pointer (some ⟨B, 0, none⟩)
noncomputable def Wm.cs (X : Wm) : Array Value := pcells (Pw X.cB) (Pw X.kB) (Pw X.pB) (Pw X.lB) X.ts (Pw X.nB) X.sp
noncomputable def Wm.parts (X : Wm) : List Part := [cellsP X.cB X.cM X.L X.n X.k X.a X.was X.is, clockP X.kb X.kB X.T X.most X.ks X.D, permitsP X.pB X.pf (X.pn : Int) X.pk X.pp, linksP X.lB X.lk, tablesP X.tb X.tO X.ts X.tn X.tM, notesP 225 .u8 X.nb X.nB X.ns X.nD, blockP X.wB (.cells X.cs 74)]
def PW (w : World) (base : Nat) (X : Wm) : Prop := Parts w base X.parts
section
variable {w w' : World} {base : Nat} {X : Wm}
theorem PW.cells (h : PW w base X) : S2.CellsAt w X.cB X.cM X.L X.n X.k X.a X.was X.is := h.ok 0 _ rfl
theorem PW.clock (h : PW w base X) : S3.ClockAt w X.kb X.kB X.T X.most X.ks X.D := h.ok 1 _ rfl
theorem PW.permits (h : PW w base X) : S4.PkAt w X.pB X.pf (X.pn : Int) X.pk X.pp := h.ok 2 _ rfl
theorem PW.links (h : PW w base X) : S5.Has w X.lB X.lk := h.ok 3 _ rfl
theorem PW.tables (h : PW w base X) : S10.St w X.tb X.tO X.ts X.tn X.tM := h.ok 4 _ rfl
theorem PW.notes (h : PW w base X) : S11.LAt 225 .u8 w X.nb X.nB X.ns X.nD := h.ok 5 _ rfl
theorem PW.own (h : PW w base X) : w.heap[X.wB]? = some (.cells X.cs 74) := h.ok 6 _ rfl
theorem PW.new (h : PW w base X) (b : Below w.heap.size w w') : PW w' base X := Parts.new h b
theorem PW.drew (h : PW w base X) : PW w.drew base X := Parts.drew h
theorem PW.size (h : PW w base X) : base ≤ w.heap.size := Parts.size h
theorem PW.c0 (h : PW w base X) : w.cell? ⟨X.wB, 0, none⟩ = some (Pw X.cB) := (cell_row h.own 0).trans (pc0 _ _ _ _ _ _ _)
theorem PW.c1 (h : PW w base X) : w.cell? ⟨X.wB, 1, none⟩ = some (Pw X.kB) := (cell_row h.own 1).trans (pc1 _ _ _ _ _ _ _)
theorem PW.c2 (h : PW w base X) : w.cell? ⟨X.wB, 2, none⟩ = some (Pw X.pB) := (cell_row h.own 2).trans (pc2 _ _ _ _ _ _ _)
theorem PW.c3 (h : PW w base X) : w.cell? ⟨X.wB, 3, none⟩ = some (Pw X.lB) := (cell_row h.own 3).trans (pc3 _ _ _ _ _ _ _)
theorem PW.c4 (h : PW w base X) : w.cell? ⟨X.wB, 4, none⟩ = some X.ts := (cell_row h.own 4).trans (pc4 _ _ _ _ _ _ _)
theorem PW.c5 (h : PW w base X) : w.cell? ⟨X.wB, 5, none⟩ = some (Pw X.nB) := (cell_row h.own 5).trans (pc5 _ _ _ _ _ _ _)
theorem PW.c6 (h : PW w base X) : w.cell? ⟨X.wB, 6, none⟩ = some (.int .i64 X.sp) := (cell_row h.own 6).trans (pc6 _ _ _ _ _ _ _)
end
/-- The blocks of a world of the program's. -/
def Foot (X : Wm) (k : Nat) : Prop := ∃ (i : Nat) (p : Part), X.parts[i]? = some p ∧ p.fp k
theorem PW.foot_lt {w : World} {base : Nat} {X : Wm} (h : PW w base X) {k : Nat} (hk : Foot X k) : k < w.heap.size := by
  obtain ⟨i, p, hp, hf⟩ := hk
  exact p.lt w (h.ok i p hp) k hf
theorem PW.foot_ge {w : World} {base : Nat} {X : Wm} (h : PW w base X) {k : Nat} (hk : Foot X k) : base ≤ k := by
  obtain ⟨i, p, hp, hf⟩ := hk
  exact h.low i p hp k hf
theorem PW.keep {S : Nat → Prop} {w w' : World} {base : Nat} {X : Wm} (h : PW w base X) (t : Turns S w w') (hs : ∀ k, Foot X k → ¬ S k) : PW w' base X :=
  Parts.kept h t (fun i p hp k hk => hs k ⟨i, p, hp, hk⟩)
/-- What is drawn next. -/
def drawN (D : List Nat) (most : Nat) : Nat := match D with
  | [] => 0
  | d :: _ => S3.brt d most
theorem drawN_le {T most : Nat} {D : List Nat} (h : S3.Nums T most D) : drawN D most ≤ 18446744073709551615 := by
  cases D with
  | nil => exact Nat.zero_le _
  | cons d D => exact Nat.le_trans (Nat.mod_le _ _) (h.all d (by simp))
theorem foot_clock {X : Wm} {s : Value} {D : List Nat} {T : Nat} (hs : s.ownBlock = X.ks.ownBlock) {k : Nat} (h : Foot { X with ks := s, D := D, T := T } k) : Foot X k := by
  obtain ⟨i, p, hp, hf⟩ := h
  match i, hp with
  | 0, hp => exact ⟨0, _, rfl, by injection hp with hp; subst hp; exact hf⟩
  | 1, hp =>
    injection hp with hp; subst hp
    refine ⟨1, _, rfl, ?_⟩
    rcases hf with e | e
    · exact .inl e
    · exact .inr (by rw [← hs]; exact e)
  | 2, hp => exact ⟨2, _, rfl, by injection hp with hp; subst hp; exact hf⟩
  | 3, hp => exact ⟨3, _, rfl, by injection hp with hp; subst hp; exact hf⟩
  | 4, hp => exact ⟨4, _, rfl, by injection hp with hp; subst hp; exact hf⟩
  | 5, hp => exact ⟨5, _, rfl, by injection hp with hp; subst hp; exact hf⟩
  | 6, hp => exact ⟨6, _, rfl, by injection hp with hp; subst hp; exact hf⟩
  | i + 7, hp => simp [Wm.parts] at hp
/-- A draw. -/
def DrawnW (w w' : World) (base : Nat) (X : Wm) : Prop := ∃ s, PW w' base { X with ks := s, D := X.D.tail } ∧ s.ownBlock = X.ks.ownBlock ∧ Below base w w' ∧ Turns (fun k => k = X.kB) w w'
set_option maxRecDepth 100000 in
set_option maxHeartbeats 4000000 in
/-- Accesses and calls together. -/
theorem steps_any {w : World} {base : Nat} {X : Wm} (h : PW w base X) (h1 : X.n ≤ 1000000000) (h2 : X.pn ≤ 1000000000) :
    Calls Tryz.prog 50 #[Pw X.wB] w fun e w' => e = .returned (.int .i64 ((X.n + X.pn : Nat) : Int)) ∧ Below w.heap.size w w' := by
  have hmf : ∀ (fn : Fn) (first cap : Array Value) (w : World), (Instr.makeFunc fn first cap).run Tryz.prog w = .ok (.func fn first cap) w := fun _ _ _ _ => rfl
  have hi0 : ∀ (x y : Value) (w : World), (Instr.index 223 (.agg #[x, y]) (.int .i64 0)).run Tryz.prog w = .ok x w := fun _ _ _ => by kernel_rfl
  have hi1 : ∀ (x y : Value) (w : World), (Instr.index 223 (.agg #[x, y]) (.int .i64 1)).run Tryz.prog w = .ok y w := fun _ _ _ => by kernel_rfl
  have HC := Lib.hid (fun (W : World) (b : Below w.heap.size w W) => S2.count_any W X.cB X.cM X.L X.n X.k X.a X.was X.is (h.new b).cells)
  have HP := Lib.hid (fun (W : World) (b : Below w.heap.size w W) => S4.pcount_any (h.new b).permits)
  have c0 := h.c0; have c2 := h.c2
  clear h
  obtain ⟨cB, cM, L, n, k, a, was, is, kb, kB, T, most, ks, D, pB, pf, pn, pk, pp, lB, lk, tb, tO, ts, tn, tM, nb, nB, ns, nD, wB, sp⟩ := X
  dsimp only at *
  have hw1 : IntKind.i64.wrap (0 + (n : Int)) = (n : Int) := by rw [IntKind.wrap_i64]; omega
  have hw2 : IntKind.i64.wrap ((n : Int) + (pn : Int)) = ((n + pn : Nat) : Int) := by rw [IntKind.wrap_i64]; omega
  have HG1 : Hid (Value.int IntKind.i64 (wrap64 (n : Int)) = .int .i64 (n : Int)) := Lib.hid (by rw [show wrap64 (n : Int) = n from by unfold wrap64; omega])
  have HG2 : Hid (Value.int IntKind.i64 (wrap64 ((n : Int) + (pn : Int))) = .int .i64 ((n + pn : Nat) : Int)) := Lib.hid (by rw [show wrap64 ((n : Int) + (pn : Int)) = ((n + pn : Nat) : Int) from by unfold wrap64; omega])
  clear h1 h2 hw1 hw2
  generalize ((n + pn : Nat) : Int) = tot at *
  go_enter Tryz.func50, Tryz.ntmps50
  go_wp2_with fail
  go_quiet (fail)
  go_wp2_with fail
  have HB0 : Hid (Below w.heap.size w (w.drewN nq)) := Lib.hid ⟨rfl, rfl, rfl, Nat.le_refl _, fun _ _ => rfl⟩
  go_loopg [3, 5, 19] 2 (fun q s3 s5 s19 wx => Below w.heap.size w wx ∧ ((q = 2 ∧ s19 = .int .i64 0 ∧ s3 = .int .i64 0) ∨ (q = 1 ∧ s19 = .int .i64 1 ∧ s3 = .int .i64 (n : Int)) ∨ (q = 0 ∧ s19 = .int .i64 2 ∧ s3 = .int .i64 tot)))
  case atStart => exact ⟨HB0.out, .inl ⟨rfl, rfl, rfl⟩⟩
  case round =>
    obtain ⟨hb, h⟩ := hrel
    have HB := Lib.hid hb
    clear hb
    rcases h with ⟨rfl, rfl, rfl⟩ | ⟨rfl, rfl, rfl⟩ | ⟨rfl, rfl, rfl⟩
    · go_wp2_with (go_at_call 104; refine (HC.out _ HB.out).mono ?_; rintro e w' ⟨rfl, rfl⟩)
      go_roundg 1
      case measure => omega
      case rel => exact ⟨HB.out, .inr (.inl ⟨rfl, rfl, HG1.out⟩)⟩
    · go_wp2_with (go_at_call 105; refine (HP.out _ HB.out).mono ?_; rintro e w' ⟨rfl, rfl⟩)
      go_roundg 0
      case measure => omega
      case rel => exact ⟨HB.out, .inr (.inr ⟨rfl, rfl, HG2.out⟩)⟩
    · go_wp2_with fail
      go_ret
      exact ⟨rfl, HB.out⟩
end Go.Proofs.YtffoobepdofkkaaGreat.S12
namespace Go.Proofs.YtffoobepdofkkaaGreat.S12
open Go.Proofs.YtffoobepdofkkaaGreat Go.Proofs.YtffoobepdofkkaaGreat.S11
open Go.RowKit

/-- One note more, where it may be. -/
def Noted (w w' : World) (base : Nat) (X : Wm) (x : Nt) : Prop := ∃ s, PW w' base { X with ns := s, nD := addD X.nD x } ∧ Below base w w'
end Go.Proofs.YtffoobepdofkkaaGreat.S12
namespace Go.Proofs.YtffoobepdofkkaaGreat.S2
open Go.Proofs.YtffoobepdofkkaaGreat
open Go.RowKit Go.Maps

def RNew (w : World) (L : LL) (e : Ending) (w' : World) : Prop := ∃ R s, e = .returned (Pt R) ∧ w.heap.size ≤ R ∧ RefAt w' w.heap.size R s L 0 0 0 0 0 ∧ Below w.heap.size w w'
set_option maxHeartbeats 4000000 in
set_option maxRecDepth 100000 in
theorem rnew_any (p : Option Addr) (n c : Nat) (A V : Nat → Nat) (hn : n ≤ 100) (hok : WOk n A V) (w : World) (hin : WIn w w.heap.size p n A V) :
    Calls Tryz.prog 66 #[.slice p n c] w (RNew w (newL A V n)) := by
  have s0 : RefAt (w.alloc (.cells #[.slice none 0 0, .int .i64 0, .int .u8 0, .int .u32 0, .int .u64 0, .int .u64 0] 135)) w.heap.size w.heap.size (.slice none 0 0) [] 0 0 0 0 0 := ⟨good_nil, heap_alloc_new w _, World.ownsRow_nil _ _ _ _, by simp [Value.ownBlock]⟩
  have hb0 : Below w.heap.size w (w.alloc (.cells #[.slice none 0 0, .int .i64 0, .int .u8 0, .int .u32 0, .int .u64 0, .int .u64 0] 135)) := (Below.refl _ _).alloc (Nat.le_refl _) _
  have S0 := Lib.hid s0; have B0 := Lib.hid hb0; have HIN := Lib.hid hin; have HOK := Lib.hid hok
  clear s0 hb0 hin hok
  go_enter Tryz.func66, Tryz.ntmps66
  go_wp2_with fail
  go_loopg [4] n (fun q s4 wx => ∃ (k : Nat) (s : Value) (kd a was is : Nat), k ≤ n ∧ q = n - k ∧ s4 = .int .i64 k ∧ RefAt wx w.heap.size w.heap.size s (newL A V k) k kd a was is ∧ Below w.heap.size w wx)
  case atStart => exact ⟨0, _, 0, 0, 0, 0, by omega, rfl, rfl, S0.out, B0.out⟩
  case round =>
    obtain ⟨k, s, kd, a, was, is, hk, rfl, rfl, hst, hb⟩ := hrel
    have HST := Lib.hid hst; have HB := Lib.hid hb
    clear hst
    by_cases hkn : k < n
    · obtain ⟨lb, lo, rfl, hlb, hc⟩ := HIN.out.below hb (Nat.le_refl _) (by omega)
      obtain ⟨d0, d1⟩ := hc k hkn
      obtain ⟨hA, hV⟩ := HOK.out k hkn
      have hsz := hb.size
      clear hc hb
      have hL : newL A V (k + 1) = putL (newL A V k) (A k) (bring (A k) (V k)) := rfl
      have HL := Lib.hid hL
      have RD := Lib.hid (HST.out.kept (turns_drew (fun _ => False) _) (fun h => h) (fun _ _ h => h))
      have hlbR : lb ≠ w.heap.size := by omega
      have LBR := Lib.hid hlbR
      clear hL hlbR
      go_upto_region 5 with (fail)
      refine wp_region_held_drew (S := fun w' => w'.cell? ⟨lb, lo + k * 2, none⟩ = some (.int .u32 (A k)) ∧ w'.cell? ⟨lb, lo + k * 2 + 1, none⟩ = some (.int .u64 (V k))) (by kernel_rfl) ?_ (fun hHeld => ?_)
      · exact ⟨d0, d1⟩
      refine wpAnyH_take (i := 0) (oi := ({ dst := some 13, op := Op.move (Operand.tmp 3), type := 88, pos := "ref.go:23", after := #[], guard := none } : Oper)) (v := ?vm0) rfl (by kernel_rfl) (by kernel_rfl) (by kernel_rfl) (fun _ _ _ h => h) (Or.inl ⟨by rfl, fun w hSw => ?hym0⟩) (by assumption) ?rm0
      case hym0 => (try dsimp only at hSw); go_simp; (try with_reducible rfl)
      (try simp only [Act.put, List.setIfInBounds_toArray, List.set_cons_zero, List.set_cons_succ])
      refine wpAnyH_take (i := 1) (oi := ({ dst := some 14, op := Op.move (Operand.tmp 0), type := 133, pos := "ref.go:23", after := #[], guard := none } : Oper)) (v := ?vm1) rfl (by kernel_rfl) (by kernel_rfl) (by kernel_rfl) (fun _ _ _ h => h) (Or.inl ⟨by rfl, fun w hSw => ?hym1⟩) (by assumption) ?rm1
      case hym1 => (try dsimp only at hSw); go_simp; (try with_reducible rfl)
      (try simp only [Act.put, List.setIfInBounds_toArray, List.set_cons_zero, List.set_cons_succ])
      refine wpAnyH_take (i := 2) (oi := ({ dst := some 15, op := Op.move (Operand.tmp 4), type := 3, pos := "ref.go:23", after := #[], guard := none } : Oper)) (v := ?vm2) rfl (by kernel_rfl) (by kernel_rfl) (by kernel_rfl) (fun _ _ _ h => h) (Or.inl ⟨by rfl, fun w hSw => ?hym2⟩) (by assumption) ?rm2
      case hym2 => (try dsimp only at hSw); go_simp; (try with_reducible rfl)
      (try simp only [Act.put, List.setIfInBounds_toArray, List.set_cons_zero, List.set_cons_succ])
      refine wpAnyH_take (i := 3) (oi := ({ dst := some 16, op := Op.indexAddr 133 (Operand.tmp 14) (Operand.tmp 15), type := 0, pos := "ref.go:23", after := #[{ on := 1, ground := Ground.data }, { on := 2, ground := Ground.data }], guard := none } : Oper)) (v := ?vm3) rfl (by kernel_rfl) (by kernel_rfl) (by kernel_rfl) (fun _ _ _ h => h) (Or.inl ⟨by rfl, fun w hSw => ?hym3⟩) (by assumption) ?rm3
      case hym3 => (try dsimp only at hSw); go_simp; (try with_reducible rfl)
      (try simp only [Act.put, List.setIfInBounds_toArray, List.set_cons_zero, List.set_cons_succ])
      refine wpAnyH_take (i := 4) (oi := ({ dst := some 17, op := Op.fieldAddr 172 (Operand.tmp 16) 0, type := 0, pos := "ref.go:23", after := #[{ on := 3, ground := Ground.data }], guard := none } : Oper)) (v := ?vm4) rfl (by kernel_rfl) (by kernel_rfl) (by kernel_rfl) (fun _ _ _ h => h) (Or.inl ⟨by rfl, fun w hSw => ?hym4⟩) (by assumption) ?rm4
      case hym4 => (try dsimp only at hSw); go_simp; (try with_reducible rfl)
      (try simp only [Act.put, List.setIfInBounds_toArray, List.set_cons_zero, List.set_cons_succ])
      refine wpAnyH_take (i := 5) (oi := ({ dst := some 18, op := Op.load 40 (Operand.tmp 17), type := 40, pos := "ref.go:23", after := #[{ on := 4, ground := Ground.data }], guard := none } : Oper)) (v := ?vm5) rfl (by kernel_rfl) (by kernel_rfl) (by kernel_rfl) (fun _ _ _ h => h) (Or.inl ⟨by rfl, fun w hSw => ?hym5⟩) (by assumption) ?rm5
      case hym5 => (try dsimp only at hSw); go_simp; (try with_reducible rfl)
      (try simp only [Act.put, List.setIfInBounds_toArray, List.set_cons_zero, List.set_cons_succ])
      refine wpAnyH_take (i := 6) (oi := ({ dst := some 19, op := Op.move (Operand.tmp 0), type := 133, pos := "ref.go:23", after := #[], guard := none } : Oper)) (v := ?vm6) rfl (by kernel_rfl) (by kernel_rfl) (by kernel_rfl) (fun _ _ _ h => h) (Or.inl ⟨by rfl, fun w hSw => ?hym6⟩) (by assumption) ?rm6
      case hym6 => (try dsimp only at hSw); go_simp; (try with_reducible rfl)
      (try simp only [Act.put, List.setIfInBounds_toArray, List.set_cons_zero, List.set_cons_succ])
      refine wpAnyH_take (i := 7) (oi := ({ dst := some 20, op := Op.move (Operand.tmp 4), type := 3, pos := "ref.go:23", after := #[], guard := none } : Oper)) (v := ?vm7) rfl (by kernel_rfl) (by kernel_rfl) (by kernel_rfl) (fun _ _ _ h => h) (Or.inl ⟨by rfl, fun w hSw => ?hym7⟩) (by assumption) ?rm7
      case hym7 => (try dsimp only at hSw); go_simp; (try with_reducible rfl)
      (try simp only [Act.put, List.setIfInBounds_toArray, List.set_cons_zero, List.set_cons_succ])
      refine wpAnyH_take (i := 8) (oi := ({ dst := some 21, op := Op.indexAddr 133 (Operand.tmp 19) (Operand.tmp 20), type := 0, pos := "ref.go:23", after := #[{ on := 6, ground := Ground.data }, { on := 7, ground := Ground.data }], guard := none } : Oper)) (v := ?vm8) rfl (by kernel_rfl) (by kernel_rfl) (by kernel_rfl) (fun _ _ _ h => h) (Or.inl ⟨by rfl, fun w hSw => ?hym8⟩) (by assumption) ?rm8
      case hym8 => (try dsimp only at hSw); go_simp; (try with_reducible rfl)
      (try simp only [Act.put, List.setIfInBounds_toArray, List.set_cons_zero, List.set_cons_succ])
      refine wpAnyH_take (i := 9) (oi := ({ dst := some 22, op := Op.fieldAddr 172 (Operand.tmp 21) 1, type := 0, pos := "ref.go:23", after := #[{ on := 8, ground := Ground.data }], guard := none } : Oper)) (v := ?vm9) rfl (by kernel_rfl) (by kernel_rfl) (by kernel_rfl) (fun _ _ _ h => h) (Or.inl ⟨by rfl, fun w hSw => ?hym9⟩) (by assumption) ?rm9
      case hym9 => (try dsimp only at hSw); go_simp; (try with_reducible rfl)
      (try simp only [Act.put, List.setIfInBounds_toArray, List.set_cons_zero, List.set_cons_succ])
      refine wpAnyH_take (i := 10) (oi := ({ dst := some 23, op := Op.load 22 (Operand.tmp 22), type := 22, pos := "ref.go:23", after := #[{ on := 9, ground := Ground.data }], guard := none } : Oper)) (v := ?vm10) rfl (by kernel_rfl) (by kernel_rfl) (by kernel_rfl) (fun _ _ _ h => h) (Or.inl ⟨by rfl, fun w hSw => ?hym10⟩) (by assumption) ?rm10
      case hym10 => (try dsimp only at hSw); go_simp; (try with_reducible rfl)
      (try simp only [Act.put, List.setIfInBounds_toArray, List.set_cons_zero, List.set_cons_succ])
      refine wpAnyH_ready (rs := [11]) (by kernel_rfl) (by simp) ?_
      refine AllReadyH.cons (o := ({ dst := some 24, op := Op.call { callee := Callee.value (Operand.func 94), args := #[Operand.tmp 13, Operand.tmp 18, Operand.tmp 23], argTypes := #[88, 40, 22] }, type := 22, pos := "ref.go:23", after := #[{ on := 0, ground := Ground.data }, { on := 5, ground := Ground.data }, { on := 10, ground := Ground.data }], guard := none } : Oper)) rfl (fun K hK => ?_) AllReadyH.nil
      go_simp
      (refine (rstore_any _ w.heap.size w.heap.size s (newL A V k) k kd a was is (A k) (V k) RD.out hsz hA (by omega) hV).mono ?_; rintro e w2 ⟨rfl, hr2⟩)
      refine hK.out _ _ ?_ (fun hHeld => ?_)
      · exact ⟨cell_turns hHeld.1 (show Turns (fun j => j = w.heap.size) _ _ from hr2.choose_spec.2.2) LBR.out, cell_turns hHeld.2 (show Turns (fun j => j = w.heap.size) _ _ from hr2.choose_spec.2.2) LBR.out⟩
      clear hK K
      (try simp only [Act.put, List.setIfInBounds_toArray, List.set_cons_zero, List.set_cons_succ])
      refine wpAnyH_done (by kernel_rfl) ?_ _
      obtain ⟨s', hr3, _, ht3⟩ := hr2
      have hbb : Below w.heap.size w w2 := (HB.out.drew).trans (ht3.below hsz (fun j hj e => by omega))
      have HR3 := Lib.hid hr3; have HBB := Lib.hid hbb
      clear hr3 ht3 hbb d0 d1
      go_wp2_with fail
      go_roundg (n - (k + 1))
      case measure => omega
      case rel => exact ⟨k + 1, s', _, _, _, _, by omega, rfl, by go_num, by rw [HL.out]; exact HR3.out, HBB.out⟩
    · obtain rfl : k = n := by omega
      obtain ⟨p0, cap, rfl, _⟩ := row_slice HST.out.own
      have e0 : wr.cell? ⟨w.heap.size, 0, none⟩ = some (.slice p0 (newL A V k).length cap) := cell_row HST.out.row 0
      go_wp2_with fail
      go_ret
      refine ⟨wr.heap.size, .slice p0 (newL A V k).length cap, rfl, HB.out.size, ⟨HST.out.good, heap_alloc_new wr _, HST.out.own.alloc _, fun e => ?_⟩, HB.out.alloc HB.out.size _⟩
      have := (HST.out.own.lt _ e).2
      omega
end Go.Proofs.YtffoobepdofkkaaGreat.S2
