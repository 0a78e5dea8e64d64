/- Texts of this seat, one behind the other. -/
import Derived.Test.YtieiiabbeglmfaaGreatDoorMLawFair205
import Derived.Test.YtieiiabbeglmfaaGreatDoorMLawFair209
import Derived.Test.YtieiiabbeglmfaaGreatDoorMLawFair2010
import Derived.Test.YtieiiabbeglmfaaGreatDoorMLawFair2011
import Derived.Test.YtieiiabbeglmfaaGreatDoorMLawFair2014
import Derived.Test.YtieiiabbeglmfaaGreatDoorMLawFair2015
set_option linter.unusedVariables false
set_option linter.unusedSimpArgs false
set_option linter.unusedVariables false
set_option linter.unusedSimpArgs false
namespace Go.Proofs.YtieiiabbeglmfaaGreatDoor.S12
set_option maxRecDepth 100000
set_option maxHeartbeats 16000000
open Go.Proofs.YtieiiabbeglmfaaGreatDoor Go.Proofs.YtieiiabbeglmfaaGreatDoor.S11
open Go.RowKit
def L02 : S2.LL := S2.newL (fun _ => 0) (fun _ => 2) 1
def cellsP (B : Nat) (M : Option Nat) (L : S2.LL) (n k a was is : Nat) : Part where
  ok w := S2.CellsAt w B M L n k a was is
  fp k := S2.Fp B M k
  lt w h k e := h.lt k e
  kept S w w' h t hs := h.kept (S := S) ⟨t.os, t.tape, t.output, t.size, t.block⟩ hs
def clockP (base B T most : Nat) (s : Value) (D : List Nat) : Part where
  ok w := S3.ClockAt w base B T most s D
  fp k := k = B ∨ s.ownBlock = some k
  lt w h k e := by
    rcases e with rfl | e
    · exact h.lt
    · exact (h.own.lt k e).2
  kept S w w' h t hs := h.kept (S := S) ⟨t.os, t.tape, t.output, t.size, t.block⟩ (hs B (.inl rfl)) (fun g e => hs g (.inr e))
def permitsP (B : Nat) (f : Nat → S4.Pk) (n kd pk : Int) : Part where
  ok w := S4.PkAt w B f n kd pk
  fp k := k = B
  lt w h k e := by rw [e]; exact h.lt
  kept S w w' h t hs := h.kept (T := S) t (hs B rfl)
def linksP (B : Nat) (S : S5.Lk) : Part where
  ok w := S5.Has w B S
  fp k := k = B
  lt w h k e := by rw [e]; exact h.lt
  kept S w w' h t hs := h.kept (T := S) ⟨t.os, t.tape, t.output, t.size, t.block⟩ (hs B rfl)
def tablesP (base : Nat) (own : Nat → Option S10.Role) (s : Value) (n : Nat) (M : Int → List S10.Bk) : Part where
  ok w := S10.St w base own s n M
  fp k := S10.Mine own k
  lt w h k e := (h.fp e).2
  kept S w w' h t hs := h.keep (S := S) ⟨t.os, t.tape, t.output, t.size, t.block⟩ hs
def notesP (T : Nat) (K : IntKind) (base p : Nat) (s : Value) (D : List S11.Nt) : Part where
  ok w := S11.LAt T K w base p s D
  fp k := k = p ∨ s.ownBlock = some k
  lt w h k e := by
    rcases e with rfl | e
    · exact h.lt
    · exact (h.own.lt k e).2
  kept S w w' h t hs := h.kept (S := S) t (hs p (.inl rfl)) (fun g e => hs g (.inr e))
section
variable {w w' : World} {base b0 i : Nat} {l : List Part}
theorem t_cells {B : Nat} {M : Option Nat} {L L' : S2.LL} {n k a was is n' k' a' was' is' : Nat} (h : Parts w base l) (hi : l[i]? = some (cellsP B M L n k a was is)) (hl : S2.Left w w' B M L' n' k' a' was' is') :
    ∃ M', Parts w' base (l.set i (cellsP B M' L' n' k' a' was' is')) ∧ Below base w w' := by
  obtain ⟨M', c, sm, t⟩ := hl
  refine ⟨M', h.turn hi (cellsP B M' L' n' k' a' was' is') c ⟨t.os, t.tape, t.output, t.size, t.block⟩ (fun k e => ?_)⟩
  rcases e with e | e
  · exact .inl (.inl e)
  · rcases sm k e with e | e
    · exact .inl (.inr e)
    · exact .inr e
theorem t_clock {B T most T' most' : Nat} {s s' : Value} {D D' : List Nat} (h : Parts w base l) (hi : l[i]? = some (clockP b0 B T most s D)) (c : S3.ClockAt w' b0 B T' most' s' D') (ho : ∀ g, s'.ownBlock = some g → s.ownBlock = some g ∨ w.heap.size ≤ g) (t : S3.Turns (fun k => k = B ∨ s.ownBlock = some k) w w') :
    Parts w' base (l.set i (clockP b0 B T' most' s' D')) ∧ Below base w w' := by
  refine h.turn hi (clockP b0 B T' most' s' D') c ⟨t.os, t.tape, t.output, t.size, t.block⟩ (fun k e => ?_)
  rcases e with e | e
  · exact .inl (.inl e)
  · rcases ho k e with e | e
    · exact .inl (.inr e)
    · exact .inr e
theorem t_permits {B : Nat} {f f' : Nat → S4.Pk} {n kd pk n' kd' pk' : Int} (h : Parts w base l) (hi : l[i]? = some (permitsP B f n kd pk)) (hp : S4.PSets w w' B f' n' kd' pk') :
    Parts w' base (l.set i (permitsP B f' n' kd' pk')) ∧ Below base w w' :=
  h.turn hi (permitsP B f' n' kd' pk') hp.1 hp.2.1 (fun k e => .inl e)
theorem t_links {B : Nat} {S S' : S5.Lk} (h : Parts w base l) (hi : l[i]? = some (linksP B S)) (hp : S5.Sets w w' B S') :
    Parts w' base (l.set i (linksP B S')) ∧ Below base w w' := by
  obtain ⟨c, t⟩ := hp
  exact h.turn hi (linksP B S') c ⟨t.os, t.tape, t.output, t.size, t.block⟩ (fun k e => .inl e)
theorem t_tables {own own' : Nat → Option S10.Role} {s : Value} {n n' : Nat} {M M' : Int → List S10.Bk} (h : Parts w base l) (hi : l[i]? = some (tablesP b0 own s n M)) (c : S10.St w' b0 own' s n' M') (t : S10.Turns (S10.Mine own) w w') (f : S10.Fresh own own' w) :
    Parts w' base (l.set i (tablesP b0 own' s n' M')) ∧ Below base w w' :=
  h.turn hi (tablesP b0 own' s n' M') c ⟨t.os, t.tape, t.output, t.size, t.block⟩ (fun k ⟨r, e⟩ => f k r e)
theorem t_notes {T p : Nat} {K : IntKind} {s : Value} {D F : List S11.Nt} (h : Parts w base l) (hi : l[i]? = some (notesP T K b0 p s D)) (hl : S11.Leaves T K w w' b0 p s F) :
    ∃ s', Parts w' base (l.set i (notesP T K b0 p s' F)) ∧ Below base w w' := by
  obtain ⟨s', c, ho, t⟩ := hl
  refine ⟨s', h.turn hi (notesP T K b0 p s' F) c t (fun k e => ?_)⟩
  rcases e with e | e
  · exact .inl (.inl e)
  · rcases ho with ho | ⟨g, ho, hg⟩
    · rw [ho] at e; exact .inl (.inr e)
    · rw [ho] at e; injection e with e; subst e; exact .inr hg
end
end Go.Proofs.YtieiiabbeglmfaaGreatDoor.S12
namespace Go.Proofs.YtieiiabbeglmfaaGreatDoor.S8
set_option maxRecDepth 100000
set_option maxHeartbeats 16000000
open Go.Proofs.YtieiiabbeglmfaaGreatDoor
open Go.RowKit
section
variable {T : TypeId} {w w' : World} {B a f : Nat}
end
end Go.Proofs.YtieiiabbeglmfaaGreatDoor.S8
namespace Go.Proofs.YtieiiabbeglmfaaGreatDoor.S8
set_option maxRecDepth 100000
set_option maxHeartbeats 16000000
open Go.Proofs.YtieiiabbeglmfaaGreatDoor
open Go.RowKit
section
variable {T : TypeId} {w w' : World} {B : Nat} {a f : Int}
end
end Go.Proofs.YtieiiabbeglmfaaGreatDoor.S8
namespace Go.Proofs.YtieiiabbeglmfaaGreatDoor.S12
set_option maxRecDepth 100000
set_option maxHeartbeats 16000000
open Go.Proofs.YtieiiabbeglmfaaGreatDoor Go.Proofs.YtieiiabbeglmfaaGreatDoor.S11
open Go.RowKit
theorem bcell {w w' : World} {a : Addr} {v : Value} (h : Below w.heap.size w w') (hc : w.cell? a = some v) : w'.cell? a = some v := by
  have hl : a.block < w.heap.size := by
    unfold World.cell? at hc
    cases hb : w.heap[a.block]? with
    | none => simp [hb] at hc
    | some x => exact (Array.getElem?_eq_some_iff.1 hb).1
  exact (h.cell hl).trans hc
def TmIn (w : World) (B : Nat) (a f : Int) : Prop := w.heap[B]? = some (.cells #[.int .u64 a, .int .u64 f] 100 (0, 0))
section
variable {w w' : World} {B : Nat} {a f : Int}
theorem TmIn.lt (h : TmIn w B a f) : B < w.heap.size := (Array.getElem?_eq_some_iff.1 h).1
theorem TmIn.c0 (h : TmIn w B a f) : w.cell? ⟨B, 0, none⟩ = some (.int .u64 a) := by simp [World.cell?, show w.heap[B]? = _ from h]
theorem TmIn.c1 (h : TmIn w B a f) : w.cell? ⟨B, 1, none⟩ = some (.int .u64 f) := by simp [World.cell?, show w.heap[B]? = _ from h]
theorem TmIn.new (h : TmIn w B a f) (b : Below w.heap.size w w') : TmIn w' B a f := (b.block B h.lt).trans h
theorem TmIn.put (h : TmIn w B a f) (x y : Int) : TmIn ((w.setCell ⟨B, 0, none⟩ (.int .u64 x)).setCell ⟨B, 1, none⟩ (.int .u64 y)) B x y := by
  have h' : w.heap[B]? = _ := h
  simp [TmIn, World.setCell, Array.getElem?_modify, h']
end
end Go.Proofs.YtieiiabbeglmfaaGreatDoor.S12
namespace Go.Proofs.YtieiiabbeglmfaaGreatDoor.S12
set_option maxRecDepth 100000
set_option maxHeartbeats 16000000
open Go.Proofs.YtieiiabbeglmfaaGreatDoor Go.Proofs.YtieiiabbeglmfaaGreatDoor.S11
open Go.RowKit
noncomputable def toks (tk : Nat → Nat) : Array Value := ((List.range 71).map (fun i => Value.int .u64 (((if i < 7 then 0 else tk (i - 7) : Nat)) : Int))).toArray
noncomputable def pcells (a b c d e f : Value) (spin : Int) (tk : Nat → Nat) : Array Value := (((((((toks tk).setIfInBounds 0 a).setIfInBounds 1 b).setIfInBounds 2 c).setIfInBounds 3 d).setIfInBounds 4 e).setIfInBounds 5 f).setIfInBounds 6 (.int .i64 spin)
theorem toks_size (tk : Nat → Nat) : (toks tk).size = 71 := by simp [toks]
theorem pcells_0 (a b c d e f : Value) (spin : Int) : pcells a b c d e f spin (fun _ => 0) = ((((((Tryz.zeroCells47.setIfInBounds 0 a).setIfInBounds 1 b).setIfInBounds 2 c).setIfInBounds 3 d).setIfInBounds 4 e).setIfInBounds 5 f).setIfInBounds 6 (.int .i64 spin) := by kernel_rfl
theorem pc0 (a b c d e f : Value) (sp : Int) (tk : Nat → Nat) : (pcells a b c d e f sp tk)[0]? = some a := by
  simp [pcells, Array.getElem?_setIfInBounds, toks_size]
theorem pc1 (a b c d e f : Value) (sp : Int) (tk : Nat → Nat) : (pcells a b c d e f sp tk)[1]? = some b := by
  simp [pcells, Array.getElem?_setIfInBounds, toks_size]
theorem pc2 (a b c d e f : Value) (sp : Int) (tk : Nat → Nat) : (pcells a b c d e f sp tk)[2]? = some c := by
  simp [pcells, Array.getElem?_setIfInBounds, toks_size]
theorem pc3 (a b c d e f : Value) (sp : Int) (tk : Nat → Nat) : (pcells a b c d e f sp tk)[3]? = some d := by
  simp [pcells, Array.getElem?_setIfInBounds, toks_size]
theorem pc4 (a b c d e f : Value) (sp : Int) (tk : Nat → Nat) : (pcells a b c d e f sp tk)[4]? = some e := by
  simp [pcells, Array.getElem?_setIfInBounds, toks_size]
theorem pc5 (a b c d e f : Value) (sp : Int) (tk : Nat → Nat) : (pcells a b c d e f sp tk)[5]? = some f := by
  simp [pcells, Array.getElem?_setIfInBounds, toks_size]
theorem pc6 (a b c d e f : Value) (sp : Int) (tk : Nat → Nat) : (pcells a b c d e f sp tk)[6]? = some (.int .i64 sp) := by
  simp [pcells, Array.getElem?_setIfInBounds, toks_size]
theorem toks_at (tk : Nat → Nat) {t : Nat} (ht : t < 64) : (toks tk)[7 + t]? = some (.int .u64 ((tk t : Nat) : Int)) := by
  have h7 : ¬ 7 + t < 7 := by omega
  unfold toks
  rw [List.getElem?_toArray, List.getElem?_map, List.getElem?_range (by omega)]
  simp [h7]
theorem pct (a b c d e f : Value) (sp : Int) (tk : Nat → Nat) {t : Nat} (ht : t < 64) : (pcells a b c d e f sp tk)[7 + t]? = some (.int .u64 ((tk t : Nat) : Int)) := by
  unfold pcells
  rw [Array.getElem?_setIfInBounds_ne (by omega), Array.getElem?_setIfInBounds_ne (by omega), Array.getElem?_setIfInBounds_ne (by omega), Array.getElem?_setIfInBounds_ne (by omega), Array.getElem?_setIfInBounds_ne (by omega), Array.getElem?_setIfInBounds_ne (by omega), Array.getElem?_setIfInBounds_ne (by omega)]
  exact toks_at tk ht
def updT (tk : Nat → Nat) (t z : Nat) : Nat → Nat := fun k => if k = t then z else tk k
theorem toks_set (tk : Nat → Nat) {t : Nat} (ht : t < 64) (z : Nat) : (toks tk).setIfInBounds (7 + t) (.int .u64 (z : Int)) = toks (updT tk t z) := by
  apply Array.ext_getElem?
  intro i
  rw [Array.getElem?_setIfInBounds, toks_size]
  unfold toks
  rw [List.getElem?_toArray, List.getElem?_toArray, List.getElem?_map, List.getElem?_map]
  by_cases hi : i < 71
  · rw [List.getElem?_range hi]
    by_cases e : 7 + t = i
    · subst e
      have h7 : ¬ 7 + t < 7 := by omega
      rw [if_pos rfl, if_pos (by omega)]
      simp [updT, h7]
    · rw [if_neg e]
      by_cases e7 : i < 7
      · simp [e7]
      · have : ¬ i - 7 = t := by omega
        simp [e7, updT, this]
  · rw [List.getElem?_eq_none (by simpa using hi), if_neg (by omega)]
    simp
theorem pctw (a b c d e f : Value) (sp : Int) (tk : Nat → Nat) {t : Nat} (ht : t < 64) (z : Nat) : (pcells a b c d e f sp tk).setIfInBounds (7 + t) (.int .u64 (z : Int)) = pcells a b c d e f sp (updT tk t z) := by
  unfold pcells
  rw [← toks_set tk ht z]
  rw [Array.setIfInBounds_comm _ _ (show 6 ≠ 7 + t by omega), Array.setIfInBounds_comm _ _ (show 5 ≠ 7 + t by omega), Array.setIfInBounds_comm _ _ (show 4 ≠ 7 + t by omega), Array.setIfInBounds_comm _ _ (show 3 ≠ 7 + t by omega), Array.setIfInBounds_comm _ _ (show 2 ≠ 7 + t by omega), Array.setIfInBounds_comm _ _ (show 1 ≠ 7 + t by omega), Array.setIfInBounds_comm _ _ (show 0 ≠ 7 + t by omega)]
structure Wm where
  cB : Nat
  cM : Option Nat
  L : S2.LL
  n : Nat
  k : Nat
  a : Nat
  was : Nat
  is : Nat
  kb : Nat
  kB : Nat
  T : Nat
  most : Nat
  ks : Value
  D : List Nat
  pB : Nat
  pf : Nat → S4.Pk
  pn : Nat
  pk : Int
  pp : Int
  lB : Nat
  lk : S5.Lk
  tb : Nat
  tO : Nat → Option S10.Role
  ts : Value
  tn : Nat
  tM : Int → List S10.Bk
  nb : Nat
  nB : Nat
  ns : Value
  nD : List Nt
  wB : Nat
  sp : Int
  tk : Nat → Nat
abbrev Pw (B : Nat) : Value := .pointer (some ⟨B, 0, none⟩)
noncomputable def Wm.cs (X : Wm) : Array Value := pcells (Pw X.cB) (Pw X.kB) (Pw X.pB) (Pw X.lB) X.ts (Pw X.nB) X.sp X.tk
noncomputable def Wm.parts (X : Wm) : List Part := [cellsP X.cB X.cM X.L X.n X.k X.a X.was X.is, clockP X.kb X.kB X.T X.most X.ks X.D, permitsP X.pB X.pf (X.pn : Int) X.pk X.pp, linksP X.lB X.lk, tablesP X.tb X.tO X.ts X.tn X.tM, notesP 304 .u8 X.nb X.nB X.ns X.nD, blockP X.wB (.cells X.cs 47)]
def PW (w : World) (base : Nat) (X : Wm) : Prop := Parts w base X.parts
section
variable {w w' : World} {base : Nat} {X : Wm}
theorem PW.cells (h : PW w base X) : S2.CellsAt w X.cB X.cM X.L X.n X.k X.a X.was X.is := h.ok 0 _ rfl
theorem PW.clock (h : PW w base X) : S3.ClockAt w X.kb X.kB X.T X.most X.ks X.D := h.ok 1 _ rfl
theorem PW.permits (h : PW w base X) : S4.PkAt w X.pB X.pf (X.pn : Int) X.pk X.pp := h.ok 2 _ rfl
theorem PW.links (h : PW w base X) : S5.Has w X.lB X.lk := h.ok 3 _ rfl
theorem PW.tables (h : PW w base X) : S10.St w X.tb X.tO X.ts X.tn X.tM := h.ok 4 _ rfl
theorem PW.notes (h : PW w base X) : S11.LAt 304 .u8 w X.nb X.nB X.ns X.nD := h.ok 5 _ rfl
theorem PW.own (h : PW w base X) : w.heap[X.wB]? = some (.cells X.cs 47) := h.ok 6 _ rfl
theorem PW.new (h : PW w base X) (b : Below w.heap.size w w') : PW w' base X := Parts.new h b
theorem PW.drew (h : PW w base X) : PW w.drew base X := Parts.drew h
theorem PW.size (h : PW w base X) : base ≤ w.heap.size := Parts.size h
theorem PW.c0 (h : PW w base X) : w.cell? ⟨X.wB, 0, none⟩ = some (Pw X.cB) := (cell_row h.own 0).trans (pc0 _ _ _ _ _ _ _ _)
theorem PW.c1 (h : PW w base X) : w.cell? ⟨X.wB, 1, none⟩ = some (Pw X.kB) := (cell_row h.own 1).trans (pc1 _ _ _ _ _ _ _ _)
theorem PW.c2 (h : PW w base X) : w.cell? ⟨X.wB, 2, none⟩ = some (Pw X.pB) := (cell_row h.own 2).trans (pc2 _ _ _ _ _ _ _ _)
theorem PW.c3 (h : PW w base X) : w.cell? ⟨X.wB, 3, none⟩ = some (Pw X.lB) := (cell_row h.own 3).trans (pc3 _ _ _ _ _ _ _ _)
theorem PW.c4 (h : PW w base X) : w.cell? ⟨X.wB, 4, none⟩ = some X.ts := (cell_row h.own 4).trans (pc4 _ _ _ _ _ _ _ _)
theorem PW.c5 (h : PW w base X) : w.cell? ⟨X.wB, 5, none⟩ = some (Pw X.nB) := (cell_row h.own 5).trans (pc5 _ _ _ _ _ _ _ _)
theorem PW.c6 (h : PW w base X) : w.cell? ⟨X.wB, 6, none⟩ = some (.int .i64 X.sp) := (cell_row h.own 6).trans (pc6 _ _ _ _ _ _ _ _)
end
def Foot (X : Wm) (k : Nat) : Prop := ∃ (i : Nat) (p : Part), X.parts[i]? = some p ∧ p.fp k
theorem PW.keep {S : Nat → Prop} {w w' : World} {base : Nat} {X : Wm} (h : PW w base X) (t : Turns S w w') (hs : ∀ k, Foot X k → ¬ S k) : PW w' base X :=
  Parts.kept h t (fun i p hp k hk => hs k ⟨i, p, hp, hk⟩)
theorem steps_any {w : World} {base : Nat} {X : Wm} (h : PW w base X) (h1 : X.n ≤ 1000000000) (h2 : X.pn ≤ 1000000000) :
    Calls Tryz.prog 125 #[Pw X.wB] w fun e w' => e = .returned (.int .i64 ((X.n + X.pn : Nat) : Int)) ∧ Below w.heap.size w w' := by
  have hmf : ∀ (fn : Fn) (first cap : Array Value) (w : World), (Instr.makeFunc fn first cap).run Tryz.prog w = .ok (.func fn first cap) w := fun _ _ _ _ => rfl
  have hi0 : ∀ (x y : Value) (w : World), (Instr.index 329 (.agg #[x, y]) (.int .i64 0)).run Tryz.prog w = .ok x w := fun _ _ _ => by kernel_rfl
  have hi1 : ∀ (x y : Value) (w : World), (Instr.index 329 (.agg #[x, y]) (.int .i64 1)).run Tryz.prog w = .ok y w := fun _ _ _ => by kernel_rfl
  have HC := Lib.hid (fun (W : World) (b : Below w.heap.size w W) => S2.count_any W X.cB X.cM X.L X.n X.k X.a X.was X.is (h.new b).cells)
  have HP := Lib.hid (fun (W : World) (b : Below w.heap.size w W) => S4.pcount_any (h.new b).permits)
  have c0 := h.c0; have c2 := h.c2
  clear h
  obtain ⟨cB, cM, L, n, k, a, was, is, kb, kB, T, most, ks, D, pB, pf, pn, pk, pp, lB, lk, tb, tO, ts, tn, tM, nb, nB, ns, nD, wB, sp⟩ := X
  dsimp only at *
  have hw1 : IntKind.i64.wrap (0 + (n : Int)) = (n : Int) := by rw [IntKind.wrap_i64]; omega
  have hw2 : IntKind.i64.wrap ((n : Int) + (pn : Int)) = ((n + pn : Nat) : Int) := by rw [IntKind.wrap_i64]; omega
  have HG1 : Hid (Value.int IntKind.i64 (wrap64 (n : Int)) = .int .i64 (n : Int)) := Lib.hid (by rw [show wrap64 (n : Int) = n from by unfold wrap64; omega])
  have HG2 : Hid (Value.int IntKind.i64 (wrap64 ((n : Int) + (pn : Int))) = .int .i64 ((n + pn : Nat) : Int)) := Lib.hid (by rw [show wrap64 ((n : Int) + (pn : Int)) = ((n + pn : Nat) : Int) from by unfold wrap64; omega])
  clear h1 h2 hw1 hw2
  generalize ((n + pn : Nat) : Int) = tot at *
  go_enter Tryz.func125, Tryz.ntmps125
  go_wp2_with fail
  go_quiet (fail)
  go_wp2_with fail
  have HB0 : Hid (Below w.heap.size w (w.drewN nq)) := Lib.hid ⟨rfl, rfl, rfl, Nat.le_refl _, fun _ _ => rfl⟩
  go_loopg [3, 5, 19] 2 (fun q s3 s5 s19 wx => Below w.heap.size w wx ∧ ((q = 2 ∧ s19 = .int .i64 0 ∧ s3 = .int .i64 0) ∨ (q = 1 ∧ s19 = .int .i64 1 ∧ s3 = .int .i64 (n : Int)) ∨ (q = 0 ∧ s19 = .int .i64 2 ∧ s3 = .int .i64 tot)))
  case atStart => exact ⟨HB0.out, .inl ⟨rfl, rfl, rfl⟩⟩
  case round =>
    obtain ⟨hb, h⟩ := hrel
    have HB := Lib.hid hb
    clear hb
    rcases h with ⟨rfl, rfl, rfl⟩ | ⟨rfl, rfl, rfl⟩ | ⟨rfl, rfl, rfl⟩
    · go_wp2_with (go_at_call 130; refine (HC.out _ HB.out).mono ?_; rintro e w' ⟨rfl, rfl⟩)
      go_roundg 1
      case measure => omega
      case rel => exact ⟨HB.out, .inr (.inl ⟨rfl, rfl, HG1.out⟩)⟩
    · go_wp2_with (go_at_call 171; refine (HP.out _ HB.out).mono ?_; rintro e w' ⟨rfl, rfl⟩)
      go_roundg 0
      case measure => omega
      case rel => exact ⟨HB.out, .inr (.inr ⟨rfl, rfl, HG2.out⟩)⟩
    · go_wp2_with fail
      go_ret
      exact ⟨rfl, HB.out⟩
end Go.Proofs.YtieiiabbeglmfaaGreatDoor.S12
namespace Go.Proofs.YtieiiabbeglmfaaGreatDoor.S12
set_option maxRecDepth 100000
set_option maxHeartbeats 16000000
open Go.Proofs.YtieiiabbeglmfaaGreatDoor Go.Proofs.YtieiiabbeglmfaaGreatDoor.S11
open Go.RowKit
end Go.Proofs.YtieiiabbeglmfaaGreatDoor.S12
namespace Go.Proofs.YtieiiabbeglmfaaGreatDoor.S5
set_option maxRecDepth 100000
set_option maxHeartbeats 16000000
open Go.Proofs.YtieiiabbeglmfaaGreatDoor
open Go.RowKit
def go : Nat → Lk → Nat → Lk × Option Nat
  | 0, S, a => (S, some a)
  | n + 1, S, a => if S (a * 3 + 2) = 0 then (if S (a * 3) = 0 then (S, none) else go n (upd S ((S (a * 3) - 1) * 3 + 1) (a + 1)) (S (a * 3) - 1)) else (S, some a)
def closeS (t : Nat) : Lk × Option Nat → Lk × Nat
  | (S, none) => (S, 0)
  | (S, some a) => (upd S (t * 3 + 2) (S (a * 3 + 2)), S (a * 3 + 2))
def seekS (S : Lk) (t : Nat) : Lk × Nat := closeS t (go 64 S t)
def Sought (w : World) (B : Nat) (R : Lk × Nat) (e : Ending) (w' : World) : Prop := e = .returned (.int .i64 ((R.2 : Int) - 1)) ∧ Has w' B R.1 ∧ Turns (fun k => k = B) w w'
theorem go_stop {S : Lk} {a : Nat} (n : Nat) (h : S (a * 3 + 2) ≠ 0 ∨ n = 0) : go n S a = (S, some a) := by
  cases n with
  | zero => rfl
  | succ n => rw [go, if_neg (by omega)]
theorem go_none {S : Lk} {a : Nat} (n : Nat) (h : S (a * 3 + 2) = 0) (h0 : S (a * 3) = 0) : go (n + 1) S a = (S, none) := by
  rw [go, if_pos h, if_pos h0]
theorem go_on {S : Lk} {a x : Nat} (n : Nat) (h : S (a * 3 + 2) = 0) (h0 : S (a * 3) = x + 1) : go (n + 1) S a = go n (upd S (x * 3 + 1) (a + 1)) x := by
  rw [go, if_pos h, if_neg (by omega), h0, Nat.add_sub_cancel]
def Jump (w : World) (B : Nat) (S : Lk) (t : Nat) (a' : Act) (w' : World) : Prop :=
  ∃ (n g at_ : Nat) (S' : Lk) (u7 u12 u13 u14 u15 u16 u17 u18 u19 u20 u21 u22 u23 u24 u25 u26 u27 u28 u29 u30 u31 u32 u33 u34 u35 u36 u37 u38 u39 u40 u41 u42 u43 u44 u45 : Value), a' = { tmps := #[Pt B, .int .i64 (t : Int), undef, undef, .int .i64 0, .int .i64 (at_ : Int), .int .i64 (g : Int), u7, Pt B, .int .i64 (t : Int), .bool true, .bool false, u12, u13, u14, u15, u16, u17, u18, u19, u20, u21, u22, u23, u24, u25, u26, u27, u28, u29, u30, u31, u32, u33, u34, u35, u36, u37, u38, u39, u40, u41, u42, u43, u44, u45, undef, undef, undef, undef, undef, undef, undef, undef, undef, undef, undef, undef, undef, undef, undef, undef, undef, undef, undef, undef, undef], defers := [] } ∧ g + n = 64 ∧ at_ < 64 ∧ Has w' B S' ∧ go n S' at_ = go 64 S t ∧ Turns (fun k => k = B) w w'
theorem Sought.mk {w0 w : World} {B t a x : Nat} {S : Lk} {e : Ending} {w' : World} {P : Lk × Option Nat} (ha : a < 64) (ht : t < 64) (h : Has w B S) (ht0 : Turns (fun k => k = B) w0 w) (hg : P = (S, some a)) (hx : S (a * 3 + 2) = x) (he : e = .returned (.int .i64 ((x : Int) - 1))) (hw : w' = w.setCell ⟨B, t * 3 + 2, none⟩ (.int .i64 (x : Nat)) ∨ w' = (w.setCell ⟨B, t * 3 + 2, none⟩ (.int .i64 (x : Nat))).drew) :
    Sought w0 B (closeS t P) e w' := by
  subst hg
  subst hx
  have h1 := h.set (i := t * 3 + 2) (by omega) (h.le (a * 3 + 2))
  have t1 := ht0.setCell ⟨B, t * 3 + 2, none⟩ (.int .i64 (S (a * 3 + 2) : Nat)) rfl
  rcases hw with rfl | rfl
  · exact ⟨he, h1, t1⟩
  · exact ⟨he, h1.drew, t1.drew⟩
theorem Sought.none {w0 w : World} {B t : Nat} {S : Lk} {P : Lk × Option Nat} (h : Has w B S) (ht0 : Turns (fun k => k = B) w0 w) (hg : P = (S, Option.none)) : Sought w0 B (closeS t P) (.returned (.int .i64 (-1))) w := by
  subst hg
  exact ⟨rfl, h, ht0⟩
theorem seek_yes {w : World} {B : Nat} {S : Lk} (h : Has w B S) (t : Nat) (ht : t < 64) : Calls Tryz.prog 212 #[Pt B, .int .i64 (t : Int)] w (Sought w B (seekS S t)) := by
  have hh := has_yes B t ht
  have HH := Lib.hid hh; have H := Lib.hid h
  clear hh h
  go_enter Tryz.func212, Tryz.ntmps212
  go_wp2_with fail
  refine wp_scope_jumps 0 (Jump w B S t) (fun a' _ => (64 - (intOf (a'.tmps.getD 6 undef)).toNat)) rfl ?_ ?_
  · have H2 := Lib.hid H.out
    have c2 := H.out.cell (t * 3 + 2) (by omega)
    have f2 := H.out.froz (t * 3 + 2) (by omega)
    have l2 := H.out.le (t * 3 + 2)
    have HT := Lib.hid (Turns.refl (fun k => k = B) w)
    obtain ⟨x, hx⟩ : ∃ x, S (t * 3 + 2) = x := ⟨_, rfl⟩
    have HX := Lib.hid hx
    rw [hx] at c2 l2
    clear hx
    go_wp2_with fail
    refine (HH.out _).mono ?_
    rintro e w' ⟨rfl, rfl⟩
    go_wp2_with fail
    go_step3
    by_cases hx0 : x = 0
    · subst hx0
      have c0 := H2.out.cell (t * 3) (by omega)
      have l0 := H2.out.le (t * 3)
      obtain ⟨y, hy⟩ : ∃ y, S (t * 3) = y := ⟨_, rfl⟩
      have HY := Lib.hid hy
      rw [hy] at c0 l0
      clear hy
      cases y with
      | zero =>
        go_wp2_with fail
        (try simp only [Exit.jump])
        go_ret
        exact Sought.none H2.out HT.out ((go_none 63 HX.out HY.out))
      | succ z =>
        have cz := H2.out.cell (z * 3 + 1) (by omega)
        have fz := H2.out.froz (z * 3 + 1) (by omega)
        have ez : ((z + 1 : Nat) : Int) = (z : Int) + 1 := by omega
        have en : ((z : Int) == -1) = false := by rw [beq_eq_false_iff_ne]; omega
        rw [ez] at c0
        have EZ := Lib.hid ez
        clear ez
        go_wp2_with fail
        go_step3
        refine ⟨rfl, ⟨63, 1, z, upd S (z * 3 + 1) (t + 1), _, _, _, _, _, _, _, _, _, _, _, _, _, _, _, _, _, _, _, _, _, _, _, _, _, _, _, _, _, _, _, _, _, _, _, rfl, by omega, by omega, H2.out.set (i := z * 3 + 1) (v := t + 1) (by omega) (by omega), ?_, HT.out.setCell _ _ rfl⟩⟩
        · exact ((go_on 63 HX.out HY.out)).symm
    · have e1 : ((x : Int) == 0) = false := by rw [beq_eq_false_iff_ne]; omega
      go_wp2_with fail
      go_region
      all_goals
        go_wp2_with fail
        (try simp only [Exit.jump])
        go_ret
        exact Sought.mk ht ht H2.out HT.out ((go_stop 64 (.inl (by rw [HX.out]; exact hx0)))) HX.out rfl (.inr rfl)
  · rintro a' wv ⟨n, g, at_, S', u7, u12, u13, u14, u15, u16, u17, u18, u19, u20, u21, u22, u23, u24, u25, u26, u27, u28, u29, u30, u31, u32, u33, u34, u35, u36, u37, u38, u39, u40, u41, u42, u43, u44, u45, rfl, hgn, hat, hhas, hgo, htu⟩
    have H2 := Lib.hid hhas; have HG := Lib.hid hgo; have HT := Lib.hid htu
    have c2 := hhas.cell (at_ * 3 + 2) (by omega)
    have f2 := hhas.froz (t * 3 + 2) (by omega)
    have ct := hhas.cell (t * 3 + 2) (by omega)
    have l2 := hhas.le (at_ * 3 + 2)
    clear hhas hgo htu
    obtain ⟨x, hx⟩ : ∃ x, S' (at_ * 3 + 2) = x := ⟨_, rfl⟩
    have HX := Lib.hid hx
    rw [hx] at c2 l2
    clear hx
    by_cases hx0 : x = 0
    · subst hx0
      cases n with
      | zero =>
        obtain rfl : g = 64 := by omega
        go_wp2_with fail
        go_region
        all_goals
          go_wp2_with fail
          (try simp only [Exit.jump])
          go_ret
          exact Sought.mk hat ht H2.out HT.out (HG.out.symm.trans (go_stop _ (.inr rfl))) HX.out rfl (.inr rfl)
      | succ n =>
        have e2 : decide ((g : Int) < 64) = true := by simp; omega
        have c0 := H2.out.cell (at_ * 3) (by omega)
        have l0 := H2.out.le (at_ * 3)
        obtain ⟨y, hy⟩ : ∃ y, S' (at_ * 3) = y := ⟨_, rfl⟩
        have HY := Lib.hid hy
        rw [hy] at c0 l0
        clear hy
        cases y with
        | zero =>
          go_wp2_with fail
          (try simp only [Exit.jump])
          go_ret
          exact Sought.none H2.out HT.out (HG.out.symm.trans (go_none n HX.out HY.out))
        | succ z =>
          have cz := H2.out.cell (z * 3 + 1) (by omega)
          have fz := H2.out.froz (z * 3 + 1) (by omega)
          have ez : ((z + 1 : Nat) : Int) = (z : Int) + 1 := by omega
          have en : ((z : Int) == -1) = false := by rw [beq_eq_false_iff_ne]; omega
          rw [ez] at c0
          have EZ := Lib.hid ez
          clear ez
          go_wp2_with fail
          go_step3
          refine ⟨rfl, ⟨⟨n, g + 1, z, upd S' (z * 3 + 1) (at_ + 1), _, _, _, _, _, _, _, _, _, _, _, _, _, _, _, _, _, _, _, _, _, _, _, _, _, _, _, _, _, _, _, _, _, _, _, rfl, by omega, by omega, H2.out.set (i := z * 3 + 1) (v := at_ + 1) (by omega) (by omega), ?_, HT.out.setCell _ _ rfl⟩, ?_⟩⟩
          · exact (HG.out.symm.trans (go_on n HX.out HY.out)).symm
          · simp [intOf]; omega
    · have e1 : ((x : Int) == 0) = false := by rw [beq_eq_false_iff_ne]; omega
      go_wp2_with fail
      go_region
      all_goals
        go_wp2_with fail
        (try simp only [Exit.jump])
        go_ret
        exact Sought.mk hat ht H2.out HT.out (HG.out.symm.trans (go_stop n (.inl (by rw [HX.out]; exact hx0)))) HX.out rfl (.inr rfl)
end Go.Proofs.YtieiiabbeglmfaaGreatDoor.S5
namespace Go.Proofs.YtieiiabbeglmfaaGreatDoor.S5
set_option maxRecDepth 100000
set_option maxHeartbeats 16000000
open Go.Proofs.YtieiiabbeglmfaaGreatDoor
open Go.RowKit
theorem seek_no {w : World} {B : Nat} (x : Int) (hx : notT x) : Calls Tryz.prog 212 #[Pt B, .int .i64 x] w fun e w' => e = .returned (.int .i64 (-1)) ∧ w = w' := by
  have hh := has_no B x hx
  have HH := Lib.hid hh
  clear hh
  go_enter Tryz.func212, Tryz.ntmps212
  go_wp2_with fail
  go_step3
  go_wp2_with fail
  refine (HH.out _).mono ?_
  rintro e w' ⟨rfl, rfl⟩
  go_wp2_with fail
  rw [Exit.noGoto_ret]
  go_ret
  exact ⟨rfl, rfl⟩
def seekO (S : Lk) : Option Nat → Lk × Nat
  | some t => seekS S t
  | none => (S, 0)
theorem seek_any {w : World} {B : Nat} {S : Lk} (h : Has w B S) {x : Int} {o : Option Nat} (hx : Num x o) : Calls Tryz.prog 212 #[Pt B, .int .i64 x] w (Sought w B (seekO S o)) := by
  cases o with
  | none => exact (seek_no x hx).mono fun e w' ⟨he, hw⟩ => by subst hw; exact ⟨he, h, Turns.refl _ _⟩
  | some t => obtain ⟨rfl, ht⟩ := hx; exact seek_yes h t ht
def cutO (S : Lk) : Option Nat → Option Nat → Lk × Nat
  | some h, some t => (if S (t * 3 + 1) = 0 then S else upd S (h * 3 + 2) (S (t * 3 + 1)), S (t * 3 + 1))
  | _, _ => (S, 0)
theorem cut_no1 {w : World} {B : Nat} (x y : Int) (hx : notT x) : Calls Tryz.prog 213 #[Pt B, .int .i64 x, .int .i64 y] w fun e w' => e = .returned (.int .i64 (-1)) ∧ w = w' := by
  have hh := has_no B x hx
  have HH := Lib.hid hh
  clear hh
  go_enter Tryz.func213, Tryz.ntmps213
  go_wp2_with fail
  refine (HH.out _).mono ?_
  rintro e w' ⟨rfl, rfl⟩
  go_wp2_with fail
  go_ret
  exact ⟨rfl, rfl⟩
theorem cut_no2 {w : World} {B : Nat} (t : Nat) (y : Int) (ht : t < 64) (hy : notT y) : Calls Tryz.prog 213 #[Pt B, .int .i64 (t : Int), .int .i64 y] w fun e w' => e = .returned (.int .i64 (-1)) ∧ w = w' := by
  have hh := has_yes B t ht
  have h2 := has_no B y hy
  have HH := Lib.hid hh; have H2 := Lib.hid h2
  clear hh h2
  go_enter Tryz.func213, Tryz.ntmps213
  go_wp2_with fail
  refine (HH.out _).mono ?_
  rintro e w' ⟨rfl, rfl⟩
  go_wp2_with fail
  refine (H2.out _).mono ?_
  rintro e w' ⟨rfl, rfl⟩
  go_wp2_with fail
  go_ret
  exact ⟨rfl, rfl⟩
theorem cut_zero {S : Lk} {t u : Nat} (h : S (u * 3 + 1) = 0) : cutO S (some t) (some u) = (S, 0) := by rw [cutO, if_pos h, h]
theorem cut_pos {S : Lk} {t u : Nat} (h : S (u * 3 + 1) ≠ 0) : cutO S (some t) (some u) = (upd S (t * 3 + 2) (S (u * 3 + 1)), S (u * 3 + 1)) := by rw [cutO, if_neg h]
theorem cut_yes {w : World} {B : Nat} {S : Lk} (h : Has w B S) (t u : Nat) (ht : t < 64) (hu : u < 64) : Calls Tryz.prog 213 #[Pt B, .int .i64 (t : Int), .int .i64 (u : Int)] w (Sought w B (cutO S (some t) (some u))) := by
  have hh := has_yes B t ht
  have h2 := has_yes B u hu
  have c1 := h.cell (u * 3 + 1) (by omega)
  have c2 := h.cell (t * 3 + 2) (by omega)
  have f2 := h.froz (t * 3 + 2) (by omega)
  have l1 := h.le (u * 3 + 1)
  have HH := Lib.hid hh; have H2 := Lib.hid h2; have H := Lib.hid h
  clear hh h2 h
  obtain ⟨x, hx⟩ : ∃ x, S (u * 3 + 1) = x := ⟨_, rfl⟩
  rw [hx] at c1 l1
  have HX := Lib.hid hx
  clear hx
  by_cases hx0 : x = 0
  · subst hx0
    go_enter Tryz.func213, Tryz.ntmps213
    go_wp2_with fail
    refine (HH.out _).mono ?_
    rintro e w' ⟨rfl, rfl⟩
    go_wp2_with fail
    refine (H2.out _).mono ?_
    rintro e w' ⟨rfl, rfl⟩
    go_wp2_with fail
    go_ret
    rw [cut_zero HX.out]
    exact ⟨rfl, H.out, Turns.refl _ _⟩
  · have e1 : ((x : Int) == 0) = false := by rw [beq_eq_false_iff_ne]; omega
    go_enter Tryz.func213, Tryz.ntmps213
    go_wp2_with fail
    refine (HH.out _).mono ?_
    rintro e w' ⟨rfl, rfl⟩
    go_wp2_with fail
    refine (H2.out _).mono ?_
    rintro e w' ⟨rfl, rfl⟩
    go_wp2_with fail
    go_ret
    rw [cut_pos (by rw [HX.out]; exact hx0), HX.out]
    exact ⟨rfl, H.out.set (by omega) l1, (Turns.refl _ _).setCell _ _ rfl⟩
theorem cut_any {w : World} {B : Nat} {S : Lk} (h : Has w B S) {x y : Int} {a b : Option Nat} (hx : Num x a) (hy : Num y b) : Calls Tryz.prog 213 #[Pt B, .int .i64 x, .int .i64 y] w (Sought w B (cutO S a b)) := by
  cases a with
  | none => exact (cut_no1 x y hx).mono fun e w' ⟨he, hw⟩ => by subst hw; cases b <;> exact ⟨he, h, Turns.refl _ _⟩
  | some t =>
    obtain ⟨rfl, ht⟩ := hx
    cases b with
    | none => exact (cut_no2 t y ht hy).mono fun e w' ⟨he, hw⟩ => by subst hw; exact ⟨he, h, Turns.refl _ _⟩
    | some u => obtain ⟨rfl, hu⟩ := hy; exact cut_yes h t u ht hu
end Go.Proofs.YtieiiabbeglmfaaGreatDoor.S5
namespace Go.Proofs.YtieiiabbeglmfaaGreatDoor.S5
set_option maxRecDepth 100000
set_option maxHeartbeats 16000000
open Go.Proofs.YtieiiabbeglmfaaGreatDoor
open Go.RowKit
end Go.Proofs.YtieiiabbeglmfaaGreatDoor.S5
namespace Go.Proofs.YtieiiabbeglmfaaGreatDoor.S5
set_option maxRecDepth 100000
set_option maxHeartbeats 16000000
open Go.Proofs.YtieiiabbeglmfaaGreatDoor
open Go.RowKit
end Go.Proofs.YtieiiabbeglmfaaGreatDoor.S5
namespace Go.Proofs.YtieiiabbeglmfaaGreatDoor.S5
set_option maxRecDepth 100000
set_option maxHeartbeats 16000000
open Go.Proofs.YtieiiabbeglmfaaGreatDoor
open Go.RowKit
end Go.Proofs.YtieiiabbeglmfaaGreatDoor.S5
namespace Go.Proofs.YtieiiabbeglmfaaGreatDoor.S5
set_option maxRecDepth 100000
set_option maxHeartbeats 16000000
open Go.Proofs.YtieiiabbeglmfaaGreatDoor
open Go.RowKit
def Z192 : Array Value := Array.replicate 192 (.int .i64 0)
theorem zero46 (w : World) : (zeroValue 299).run Tryz.prog w = .ok (.agg Z192) w := by kernel_rfl
def S0 : Lk := fun _ => 0
theorem cell_row {w : World} {B : Nat} {cs : Array Value} {T : TypeId} (h : w.heap[B]? = some (.cells cs T (0, 0))) (o : Nat) : w.cell? ⟨B, o, none⟩ = cs[o]? := by
  simp [World.cell?, h]
theorem froz_row {w : World} {B : Nat} {cs : Array Value} {T : TypeId} (h : w.heap[B]? = some (.cells cs T (0, 0))) (o : Nat) : w.frozen? ⟨B, o, none⟩ = false := by
  simp [World.frozen?, h]
theorem z192 {i : Nat} (hi : i < 192) : Z192[i]? = some (.int .i64 0) := by
  unfold Z192
  rw [Array.getElem?_replicate, if_pos hi]
theorem has_row {w : World} {B : Nat} {T : TypeId} (hb : w.heap[B]? = some (.cells Z192 T (0, 0))) : Has w B S0 :=
  ⟨(Array.getElem?_eq_some_iff.1 hb).1, fun i hi => (cell_row hb i).trans (z192 hi), fun i _ => froz_row hb i, fun _ => Nat.zero_le _⟩
theorem has_zero (w : World) (T : TypeId) : Has (w.alloc (.cells Z192 T)) w.heap.size S0 := has_row (heap_alloc_new w _)
theorem new_any (w : World) : Calls Tryz.prog 86 #[] w fun e w' => e = .returned (Pt w.heap.size) ∧ Has w' w.heap.size S0 ∧ Below w.heap.size w w' := by
  have z := zero46
  go_enter Tryz.func86, Tryz.ntmps86
  go_wp2_with fail
  go_ret
  exact ⟨rfl, has_zero w 299, below1 w _⟩
section
variable {w : World} {B : Nat} {S S' : Lk} {x y v : Int} {o p : Option Nat} {r : Nat}
end
theorem nm (t : Nat) (h : t < 64) : Num (t : Int) (some t) := ⟨rfl, h⟩
theorem nm1 : Num (-1) none := by unfold Num notT; omega
end Go.Proofs.YtieiiabbeglmfaaGreatDoor.S5
