/- Texts of this seat, one behind the other. -/
import Derived.Test.YthafnphpcdbnlaaGreatDoorMLawNew4
import Derived.Test.YthafnphpcdbnlaaGreatDoorMLawNew5
import Derived.Test.YthafnphpcdbnlaaGreatDoorMLawNew9
import Derived.Test.YthafnphpcdbnlaaGreatDoorMLawNew16
import Derived.Test.YthafnphpcdbnlaaGreatDoorMLawNew17
import Derived.Test.YthafnphpcdbnlaaGreatDoorMLawNew18
import Derived.Test.YthafnphpcdbnlaaGreatDoorMLawNew26
import Derived.Test.YthafnphpcdbnlaaGreatDoorMLawNew28
set_option linter.unusedVariables false
set_option linter.unusedSimpArgs false
set_option linter.unusedVariables false
set_option linter.unusedSimpArgs false
namespace Go.Proofs.YthafnphpcdbnlaaGreatDoor.S12
open Go.Proofs.YthafnphpcdbnlaaGreatDoor Go.Proofs.YthafnphpcdbnlaaGreatDoor.S11
open Go.RowKit

/-- What stands in the cells of a new world. -/
def L02 : S2.LL := S2.newL (fun _ => 0) (fun _ => 2) 1
def cellsP (B : Nat) (M : Option Nat) (L : S2.LL) (n k a was is : Nat) : Part where
  ok w := S2.CellsAt w B M L n k a was is
  fp k := S2.Fp B M k
  lt w h k e := h.lt k e
  kept S w w' h t hs := h.kept (S := S) ⟨t.os, t.tape, t.output, t.size, t.block⟩ hs
def clockP (base B T most : Nat) (s : Value) (D : List Nat) : Part where
  ok w := S3.ClockAt w base B T most s D
  fp k := k = B ∨ s.ownBlock = some k
  lt w h k e := by
    rcases e with rfl | e
    · exact h.lt
    · exact (h.own.lt k e).2
  kept S w w' h t hs := h.kept (S := S) ⟨t.os, t.tape, t.output, t.size, t.block⟩ (hs B (.inl rfl)) (fun g e => hs g (.inr e))
def permitsP (B : Nat) (f : Nat → S4.Pk) (n kd pk : Int) : Part where
  ok w := S4.PkAt w B f n kd pk
  fp k := k = B
  lt w h k e := by rw [e]; exact h.lt
  kept S w w' h t hs := h.kept (T := S) t (hs B rfl)
def linksP (B : Nat) (S : S5.Lk) : Part where
  ok w := S5.Has w B S
  fp k := k = B
  lt w h k e := by rw [e]; exact h.lt
  kept S w w' h t hs := h.kept (T := S) ⟨t.os, t.tape, t.output, t.size, t.block⟩ (hs B rfl)
def tablesP (base : Nat) (own : Nat → Option S10.Role) (s : Value) (n : Nat) (M : Int → List S10.Bk) : Part where
  ok w := S10.St w base own s n M
  fp k := S10.Mine own k
  lt w h k e := (h.fp e).2
  kept S w w' h t hs := h.keep (S := S) ⟨t.os, t.tape, t.output, t.size, t.block⟩ hs
def notesP (T : Nat) (K : IntKind) (base p : Nat) (s : Value) (D : List S11.Nt) : Part where
  ok w := S11.LAt T K w base p s D
  fp k := k = p ∨ s.ownBlock = some k
  lt w h k e := by
    rcases e with rfl | e
    · exact h.lt
    · exact (h.own.lt k e).2
  kept S w w' h t hs := h.kept (S := S) t (hs p (.inl rfl)) (fun g e => hs g (.inr e))
section
variable {w w' : World} {base b0 i : Nat} {l : List Part}
theorem t_cells {B : Nat} {M : Option Nat} {L L' : S2.LL} {n k a was is n' k' a' was' is' : Nat} (h : Parts w base l) (hi : l[i]? = some (cellsP B M L n k a was is)) (hl : S2.Left w w' B M L' n' k' a' was' is') :
    ∃ M', Parts w' base (l.set i (cellsP B M' L' n' k' a' was' is')) ∧ Below base w w' := by
  obtain ⟨M', c, sm, t⟩ := hl
  refine ⟨M', h.turn hi (cellsP B M' L' n' k' a' was' is') c ⟨t.os, t.tape, t.output, t.size, t.block⟩ (fun k e => ?_)⟩
  rcases e with e | e
  · exact .inl (.inl e)
  · rcases sm k e with e | e
    · exact .inl (.inr e)
    · exact .inr e
theorem t_clock {B T most T' most' : Nat} {s s' : Value} {D D' : List Nat} (h : Parts w base l) (hi : l[i]? = some (clockP b0 B T most s D)) (c : S3.ClockAt w' b0 B T' most' s' D') (ho : ∀ g, s'.ownBlock = some g → s.ownBlock = some g ∨ w.heap.size ≤ g) (t : S3.Turns (fun k => k = B ∨ s.ownBlock = some k) w w') :
    Parts w' base (l.set i (clockP b0 B T' most' s' D')) ∧ Below base w w' := by
  refine h.turn hi (clockP b0 B T' most' s' D') c ⟨t.os, t.tape, t.output, t.size, t.block⟩ (fun k e => ?_)
  rcases e with e | e
  · exact .inl (.inl e)
  · rcases ho k e with e | e
    · exact .inl (.inr e)
    · exact .inr e
theorem t_permits {B : Nat} {f f' : Nat → S4.Pk} {n kd pk n' kd' pk' : Int} (h : Parts w base l) (hi : l[i]? = some (permitsP B f n kd pk)) (hp : S4.PSets w w' B f' n' kd' pk') :
    Parts w' base (l.set i (permitsP B f' n' kd' pk')) ∧ Below base w w' :=
  h.turn hi (permitsP B f' n' kd' pk') hp.1 hp.2.1 (fun k e => .inl e)
theorem t_links {B : Nat} {S S' : S5.Lk} (h : Parts w base l) (hi : l[i]? = some (linksP B S)) (hp : S5.Sets w w' B S') :
    Parts w' base (l.set i (linksP B S')) ∧ Below base w w' := by
  obtain ⟨c, t⟩ := hp
  exact h.turn hi (linksP B S') c ⟨t.os, t.tape, t.output, t.size, t.block⟩ (fun k e => .inl e)
theorem t_tables {own own' : Nat → Option S10.Role} {s : Value} {n n' : Nat} {M M' : Int → List S10.Bk} (h : Parts w base l) (hi : l[i]? = some (tablesP b0 own s n M)) (c : S10.St w' b0 own' s n' M') (t : S10.Turns (S10.Mine own) w w') (f : S10.Fresh own own' w) :
    Parts w' base (l.set i (tablesP b0 own' s n' M')) ∧ Below base w w' :=
  h.turn hi (tablesP b0 own' s n' M') c ⟨t.os, t.tape, t.output, t.size, t.block⟩ (fun k ⟨r, e⟩ => f k r e)
theorem t_notes {T p : Nat} {K : IntKind} {s : Value} {D F : List S11.Nt} (h : Parts w base l) (hi : l[i]? = some (notesP T K b0 p s D)) (hl : S11.Leaves T K w w' b0 p s F) :
    ∃ s', Parts w' base (l.set i (notesP T K b0 p s' F)) ∧ Below base w w' := by
  obtain ⟨s', c, ho, t⟩ := hl
  refine ⟨s', h.turn hi (notesP T K b0 p s' F) c t (fun k e => ?_)⟩
  rcases e with e | e
  · exact .inl (.inl e)
  · rcases ho with ho | ⟨g, ho, hg⟩
    · rw [ho] at e; exact .inl (.inr e)
    · rw [ho] at e; injection e with e; subst e; exact .inr hg
end
end Go.Proofs.YthafnphpcdbnlaaGreatDoor.S12
set_option linter.unusedVariables false
set_option linter.unusedSimpArgs false
namespace Go.Proofs.YthafnphpcdbnlaaGreatDoor.S8
open Go.Proofs.YthafnphpcdbnlaaGreatDoor
open Go.RowKit

abbrev Tm (a f : Nat) : Value := .agg #[.int .u64 a, .int .u64 f]
/-- A sum that stays at the greatest number of 64 bits. -/
def sat (a b : Nat) : Nat := if a + b ≤ 18446744073709551615 then a + b else 18446744073709551615
/-- A timer in a block of its own. -/
def TmAt (T : TypeId) (w : World) (B a f : Nat) : Prop := w.heap[B]? = some (.cells #[.int .u64 a, .int .u64 f] T (0, 0))
section
variable {T : TypeId} {w w' : World} {B a f : Nat}
theorem TmAt.lt (h : TmAt T w B a f) : B < w.heap.size := (Array.getElem?_eq_some_iff.1 h).1
theorem TmAt.c0 (h : TmAt T w B a f) : w.cell? ⟨B, 0, none⟩ = some (.int .u64 a) := by simp [World.cell?, show w.heap[B]? = _ from h]
theorem TmAt.c1 (h : TmAt T w B a f) : w.cell? ⟨B, 1, none⟩ = some (.int .u64 f) := by simp [World.cell?, show w.heap[B]? = _ from h]
theorem TmAt.z0 (h : TmAt T w B a f) : w.frozen? ⟨B, 0, none⟩ = false := by simp [World.frozen?, show w.heap[B]? = _ from h]
theorem TmAt.z1 (h : TmAt T w B a f) : w.frozen? ⟨B, 1, none⟩ = false := by simp [World.frozen?, show w.heap[B]? = _ from h]
theorem TmAt.new (h : TmAt T w B a f) (b : Below w.heap.size w w') : TmAt T w' B a f := (b.block B h.lt).trans h
theorem TmAt.put (h : TmAt T w B a f) (x y : Nat) : TmAt T ((w.setCell ⟨B, 0, none⟩ (.int .u64 x)).setCell ⟨B, 1, none⟩ (.int .u64 y)) B x y := by
  have h' : w.heap[B]? = _ := h
  simp [TmAt, World.setCell, Array.getElem?_modify, h']
theorem TmAt.made (w : World) (T : TypeId) (a f : Nat) : TmAt T (w.alloc (.cells #[.int .u64 a, .int .u64 f] T)) w.heap.size a f :=
  heap_alloc_new w _
end
theorem below1 (w : World) (o : Obj) : Below w.heap.size w (w.alloc o) := (Below.refl _ _).alloc (Nat.le_refl _) _
theorem begin_any (n : Nat) (w : World) : Calls Tryz.prog 79 #[.int .u64 n] w fun e w' => e = .returned (Tm n n) ∧ Below w.heap.size w w' := by
  go_enter Tryz.func79, Tryz.ntmps79
  go_wp2
  exact bodyPost_ret (v := Tm n n) (by simp [results, Tryz.results79, go_sem]) rfl ⟨rfl, (Below.refl _ _).alloc (Nat.le_refl _) _⟩
theorem rbegin_any (n : Nat) (w : World) : Calls Tryz.prog 83 #[.int .u64 n] w fun e w' => e = .returned (Tm n n) ∧ Below w.heap.size w w' := by
  go_enter Tryz.func83, Tryz.ntmps83
  go_wp2
  exact bodyPost_ret (v := Tm n n) (by simp [results, Tryz.results83, go_sem]) rfl ⟨rfl, (Below.refl _ _).alloc (Nat.le_refl _) _⟩
theorem other_any (a f : Nat) (w : World) : Calls Tryz.prog 64 #[Tm a f] w fun e w' => e = .returned (Tm a f) ∧ Below w.heap.size w w' := by
  go_enter Tryz.func64, Tryz.ntmps64
  go_wp2
  exact bodyPost_ret (v := Tm a f) (by simp [results, Tryz.results64, go_sem]) rfl ⟨rfl, ((Below.refl _ _).alloc (Nat.le_refl _) _).alloc (by simp) _⟩
/-- A sum of 64 bits, as it goes round. -/
def rnd (a b : Nat) : Nat := (a + b) % 18446744073709551616
theorem rnd_wrap (a b : Nat) : IntKind.u64.wrap ((a : Int) + (b : Int)) = ((rnd a b : Nat) : Int) := by
  rw [IntKind.wrap_u64]; unfold rnd; omega
theorem rnd_sat {a b : Nat} (ha : a ≤ 18446744073709551615) (hb : b ≤ 18446744073709551615) : (if rnd a b < a then 18446744073709551615 else rnd a b) = sat a b := by
  unfold rnd sat
  split <;> split <;> omega
/-- What a timer is that was asked, and whether it fired. -/
def firA (a n d : Nat) : Nat := if a < n then sat n d else a
def firF (a f n : Nat) : Nat := if a < n then n else f
/-- Two timers' blocks, made one behind the other: what comes in, and an empty one. -/
theorem two_made (T : TypeId) (w : World) (a f : Nat) : TmAt T ((w.alloc (.cells #[.int .u64 a, .int .u64 f] T)).alloc (.cells #[.int .u64 0, .int .u64 0] T)) w.heap.size a f
    ∧ TmAt T ((w.alloc (.cells #[.int .u64 a, .int .u64 f] T)).alloc (.cells #[.int .u64 0, .int .u64 0] T)) (w.heap.size + 1) 0 0
    ∧ Below w.heap.size w ((w.alloc (.cells #[.int .u64 a, .int .u64 f] T)).alloc (.cells #[.int .u64 0, .int .u64 0] T)) := by
  refine ⟨(TmAt.made w T a f).new (below1 _ _), ?_, (below1 w _).alloc (by simp) _⟩
  have h := TmAt.made (w.alloc (.cells #[.int .u64 a, .int .u64 f] T)) T 0 0
  rw [show (w.alloc (.cells #[.int .u64 a, .int .u64 f] T)).heap.size = w.heap.size + 1 by simp] at h
  exact h
end Go.Proofs.YthafnphpcdbnlaaGreatDoor.S8
set_option linter.unusedVariables false
set_option linter.unusedSimpArgs false
namespace Go.Proofs.YthafnphpcdbnlaaGreatDoor.S8
open Go.Proofs.YthafnphpcdbnlaaGreatDoor
open Go.RowKit


/-- The literal calls of the chapter's examples. -/
theorem eq24 (a f x y : Nat) (w : World) : (binOp .eql 173 (Tm a f) (Tm x y)).run Tryz.prog w = .ok (.bool (decide (a = x) && decide (f = y))) w := by
  simp [go_sem, Tryz.underlying173]
  by_cases h1 : a = x <;> by_cases h2 : f = y <;> simp [h1, h2] <;> omega
theorem eq27 (a f x y : Nat) (w : World) : (binOp .eql 171 (Tm a f) (Tm x y)).run Tryz.prog w = .ok (.bool (decide (a = x) && decide (f = y))) w := by
  simp [go_sem, Tryz.underlying171]
  by_cases h1 : a = x <;> by_cases h2 : f = y <;> simp [h1, h2] <;> omega
theorem neq24 (a f x y : Nat) (w : World) : (binOp .neq 173 (Tm a f) (Tm x y)).run Tryz.prog w = .ok (.bool (!(decide (a = x) && decide (f = y)))) w := by
  simp [go_sem, Tryz.underlying173]
  by_cases h1 : a = x <;> by_cases h2 : f = y <;> simp [h1, h2] <;> omega
/-- A timer in a block of its own, written in literals. -/
def LitAt (T : TypeId) (w : World) (B : Nat) (a f : Int) : Prop := w.heap[B]? = some (.cells #[.int .u64 a, .int .u64 f] T (0, 0))
section
variable {T : TypeId} {w w' : World} {B : Nat} {a f : Int}
theorem LitAt.lt (h : LitAt T w B a f) : B < w.heap.size := (Array.getElem?_eq_some_iff.1 h).1
theorem LitAt.c0 (h : LitAt T w B a f) : w.cell? ⟨B, 0, none⟩ = some (.int .u64 a) := by simp [World.cell?, show w.heap[B]? = _ from h]
theorem LitAt.c1 (h : LitAt T w B a f) : w.cell? ⟨B, 1, none⟩ = some (.int .u64 f) := by simp [World.cell?, show w.heap[B]? = _ from h]
theorem LitAt.new (h : LitAt T w B a f) (b : Below w.heap.size w w') : LitAt T w' B a f := (b.block B h.lt).trans h
theorem LitAt.made (w : World) (T : TypeId) (a f : Int) : LitAt T (w.alloc (.cells #[.int .u64 a, .int .u64 f] T)) w.heap.size a f :=
  heap_alloc_new w _
end
end Go.Proofs.YthafnphpcdbnlaaGreatDoor.S8
set_option linter.unusedVariables false
set_option linter.unusedSimpArgs false
namespace Go.Proofs.YthafnphpcdbnlaaGreatDoor.S12
open Go.Proofs.YthafnphpcdbnlaaGreatDoor Go.Proofs.YthafnphpcdbnlaaGreatDoor.S11
open Go.RowKit

/-- A cell of an old block stays. -/
theorem bcell {w w' : World} {a : Addr} {v : Value} (h : Below w.heap.size w w') (hc : w.cell? a = some v) : w'.cell? a = some v := by
  have hl : a.block < w.heap.size := by
    unfold World.cell? at hc
    cases hb : w.heap[a.block]? with
    | none => simp [hb] at hc
    | some x => exact (Array.getElem?_eq_some_iff.1 hb).1
  exact (h.cell hl).trans hc
abbrev TmI (a f : Int) : Value := .agg #[.int .u64 a, .int .u64 f]
def TmIn (w : World) (B : Nat) (a f : Int) : Prop := w.heap[B]? = some (.cells #[.int .u64 a, .int .u64 f] 173 (0, 0))
section
variable {w w' : World} {B : Nat} {a f : Int}
theorem TmIn.lt (h : TmIn w B a f) : B < w.heap.size := (Array.getElem?_eq_some_iff.1 h).1
theorem TmIn.c0 (h : TmIn w B a f) : w.cell? ⟨B, 0, none⟩ = some (.int .u64 a) := by simp [World.cell?, show w.heap[B]? = _ from h]
theorem TmIn.c1 (h : TmIn w B a f) : w.cell? ⟨B, 1, none⟩ = some (.int .u64 f) := by simp [World.cell?, show w.heap[B]? = _ from h]
theorem TmIn.z0 (h : TmIn w B a f) : w.frozen? ⟨B, 0, none⟩ = false := by simp [World.frozen?, show w.heap[B]? = _ from h]
theorem TmIn.z1 (h : TmIn w B a f) : w.frozen? ⟨B, 1, none⟩ = false := by simp [World.frozen?, show w.heap[B]? = _ from h]
theorem TmIn.new (h : TmIn w B a f) (b : Below w.heap.size w w') : TmIn w' B a f := (b.block B h.lt).trans h
theorem TmIn.put (h : TmIn w B a f) (x y : Int) : TmIn ((w.setCell ⟨B, 0, none⟩ (.int .u64 x)).setCell ⟨B, 1, none⟩ (.int .u64 y)) B x y := by
  have h' : w.heap[B]? = _ := h
  simp [TmIn, World.setCell, Array.getElem?_modify, h']
theorem TmIn.made (w : World) (a f : Int) : TmIn (w.alloc (.cells #[.int .u64 a, .int .u64 f] 173)) w.heap.size a f := heap_alloc_new w _
end
theorem two_int (w : World) (a f : Int) : TmIn ((w.alloc (.cells #[.int .u64 a, .int .u64 f] 173)).alloc (.cells #[.int .u64 0, .int .u64 0] 173)) w.heap.size a f
    ∧ TmIn ((w.alloc (.cells #[.int .u64 a, .int .u64 f] 173)).alloc (.cells #[.int .u64 0, .int .u64 0] 173)) (w.heap.size + 1) 0 0
    ∧ Below w.heap.size w ((w.alloc (.cells #[.int .u64 a, .int .u64 f] 173)).alloc (.cells #[.int .u64 0, .int .u64 0] 173)) := by
  refine ⟨(TmIn.made w a f).new (S8.below1 _ _), ?_, (S8.below1 w _).alloc (by simp) _⟩
  have h := TmIn.made (w.alloc (.cells #[.int .u64 a, .int .u64 f] 173)) 0 0
  rw [show (w.alloc (.cells #[.int .u64 a, .int .u64 f] 173)).heap.size = w.heap.size + 1 by simp] at h
  exact h
end Go.Proofs.YthafnphpcdbnlaaGreatDoor.S12
set_option linter.unusedVariables false
set_option linter.unusedSimpArgs false
namespace Go.Proofs.YthafnphpcdbnlaaGreatDoor.S12
open Go.Proofs.YthafnphpcdbnlaaGreatDoor Go.Proofs.YthafnphpcdbnlaaGreatDoor.S11
open Go.RowKit

noncomputable def pcells (a b c d e f : Value) (spin : Int) : Array Value := ((((((Tryz.zeroCells47.setIfInBounds 0 a).setIfInBounds 1 b).setIfInBounds 2 c).setIfInBounds 3 d).setIfInBounds 4 e).setIfInBounds 5 f).setIfInBounds 6 (.int .i64 spin)
theorem zsize : Tryz.zeroCells47.size = 71 := by kernel_rfl
theorem pc0 (a b c d e f : Value) (sp : Int) : (pcells a b c d e f sp)[0]? = some a := by
  simp [pcells, Array.getElem?_setIfInBounds, zsize]
theorem pc1 (a b c d e f : Value) (sp : Int) : (pcells a b c d e f sp)[1]? = some b := by
  simp [pcells, Array.getElem?_setIfInBounds, zsize]
theorem pc2 (a b c d e f : Value) (sp : Int) : (pcells a b c d e f sp)[2]? = some c := by
  simp [pcells, Array.getElem?_setIfInBounds, zsize]
theorem pc3 (a b c d e f : Value) (sp : Int) : (pcells a b c d e f sp)[3]? = some d := by
  simp [pcells, Array.getElem?_setIfInBounds, zsize]
theorem pc4 (a b c d e f : Value) (sp : Int) : (pcells a b c d e f sp)[4]? = some e := by
  simp [pcells, Array.getElem?_setIfInBounds, zsize]
theorem pc5 (a b c d e f : Value) (sp : Int) : (pcells a b c d e f sp)[5]? = some f := by
  simp [pcells, Array.getElem?_setIfInBounds, zsize]
theorem pc6 (a b c d e f : Value) (sp : Int) : (pcells a b c d e f sp)[6]? = some (.int .i64 sp) := by
  simp [pcells, Array.getElem?_setIfInBounds, zsize]
/-- Where the things of a world of the program's stand, and what they say. -/
structure Wm where
  cB : Nat
  cM : Option Nat
  L : S2.LL
  n : Nat
  k : Nat
  a : Nat
  was : Nat
  is : Nat
  kb : Nat
  kB : Nat
  T : Nat
  most : Nat
  ks : Value
  D : List Nat
  pB : Nat
  pf : Nat → S4.Pk
  pn : Nat
  pk : Int
  pp : Int
  lB : Nat
  lk : S5.Lk
  tb : Nat
  tO : Nat → Option S10.Role
  ts : Value
  tn : Nat
  tM : Int → List S10.Bk
  nb : Nat
  nB : Nat
  ns : Value
  nD : List Nt
  wB : Nat
  sp : Int
abbrev Pw (B : Nat) : Value := .pointer (some ⟨B, 0, none⟩)
noncomputable def Wm.cs (X : Wm) : Array Value := pcells (Pw X.cB) (Pw X.kB) (Pw X.pB) (Pw X.lB) X.ts (Pw X.nB) X.sp
noncomputable def Wm.parts (X : Wm) : List Part := [cellsP X.cB X.cM X.L X.n X.k X.a X.was X.is, clockP X.kb X.kB X.T X.most X.ks X.D, permitsP X.pB X.pf (X.pn : Int) X.pk X.pp, linksP X.lB X.lk, tablesP X.tb X.tO X.ts X.tn X.tM, notesP 150 .u8 X.nb X.nB X.ns X.nD, blockP X.wB (.cells X.cs 47)]
def PW (w : World) (base : Nat) (X : Wm) : Prop := Parts w base X.parts
section
variable {w w' : World} {base : Nat} {X : Wm}
theorem PW.cells (h : PW w base X) : S2.CellsAt w X.cB X.cM X.L X.n X.k X.a X.was X.is := h.ok 0 _ rfl
theorem PW.clock (h : PW w base X) : S3.ClockAt w X.kb X.kB X.T X.most X.ks X.D := h.ok 1 _ rfl
theorem PW.permits (h : PW w base X) : S4.PkAt w X.pB X.pf (X.pn : Int) X.pk X.pp := h.ok 2 _ rfl
theorem PW.links (h : PW w base X) : S5.Has w X.lB X.lk := h.ok 3 _ rfl
theorem PW.tables (h : PW w base X) : S10.St w X.tb X.tO X.ts X.tn X.tM := h.ok 4 _ rfl
theorem PW.notes (h : PW w base X) : S11.LAt 150 .u8 w X.nb X.nB X.ns X.nD := h.ok 5 _ rfl
theorem PW.own (h : PW w base X) : w.heap[X.wB]? = some (.cells X.cs 47) := h.ok 6 _ rfl
theorem PW.new (h : PW w base X) (b : Below w.heap.size w w') : PW w' base X := Parts.new h b
theorem PW.drew (h : PW w base X) : PW w.drew base X := Parts.drew h
theorem PW.size (h : PW w base X) : base ≤ w.heap.size := Parts.size h
theorem PW.c0 (h : PW w base X) : w.cell? ⟨X.wB, 0, none⟩ = some (Pw X.cB) := (cell_row h.own 0).trans (pc0 _ _ _ _ _ _ _)
theorem PW.c1 (h : PW w base X) : w.cell? ⟨X.wB, 1, none⟩ = some (Pw X.kB) := (cell_row h.own 1).trans (pc1 _ _ _ _ _ _ _)
theorem PW.c2 (h : PW w base X) : w.cell? ⟨X.wB, 2, none⟩ = some (Pw X.pB) := (cell_row h.own 2).trans (pc2 _ _ _ _ _ _ _)
theorem PW.c3 (h : PW w base X) : w.cell? ⟨X.wB, 3, none⟩ = some (Pw X.lB) := (cell_row h.own 3).trans (pc3 _ _ _ _ _ _ _)
theorem PW.c4 (h : PW w base X) : w.cell? ⟨X.wB, 4, none⟩ = some X.ts := (cell_row h.own 4).trans (pc4 _ _ _ _ _ _ _)
theorem PW.c5 (h : PW w base X) : w.cell? ⟨X.wB, 5, none⟩ = some (Pw X.nB) := (cell_row h.own 5).trans (pc5 _ _ _ _ _ _ _)
theorem PW.c6 (h : PW w base X) : w.cell? ⟨X.wB, 6, none⟩ = some (.int .i64 X.sp) := (cell_row h.own 6).trans (pc6 _ _ _ _ _ _ _)
end
/-- The blocks of a world of the program's. -/
def Foot (X : Wm) (k : Nat) : Prop := ∃ (i : Nat) (p : Part), X.parts[i]? = some p ∧ p.fp k
theorem PW.foot_lt {w : World} {base : Nat} {X : Wm} (h : PW w base X) {k : Nat} (hk : Foot X k) : k < w.heap.size := by
  obtain ⟨i, p, hp, hf⟩ := hk
  exact p.lt w (h.ok i p hp) k hf
theorem PW.foot_ge {w : World} {base : Nat} {X : Wm} (h : PW w base X) {k : Nat} (hk : Foot X k) : base ≤ k := by
  obtain ⟨i, p, hp, hf⟩ := hk
  exact h.low i p hp k hf
theorem PW.keep {S : Nat → Prop} {w w' : World} {base : Nat} {X : Wm} (h : PW w base X) (t : Turns S w w') (hs : ∀ k, Foot X k → ¬ S k) : PW w' base X :=
  Parts.kept h t (fun i p hp k hk => hs k ⟨i, p, hp, hk⟩)
/-- What is drawn next. -/
def drawN (D : List Nat) (most : Nat) : Nat := match D with
  | [] => 0
  | d :: _ => S3.brt d most
theorem drawN_le {T most : Nat} {D : List Nat} (h : S3.Nums T most D) : drawN D most ≤ 18446744073709551615 := by
  cases D with
  | nil => exact Nat.zero_le _
  | cons d D => exact Nat.le_trans (Nat.mod_le _ _) (h.all d (by simp))
theorem foot_clock {X : Wm} {s : Value} {D : List Nat} {T : Nat} (hs : s.ownBlock = X.ks.ownBlock) {k : Nat} (h : Foot { X with ks := s, D := D, T := T } k) : Foot X k := by
  obtain ⟨i, p, hp, hf⟩ := h
  match i, hp with
  | 0, hp => exact ⟨0, _, rfl, by injection hp with hp; subst hp; exact hf⟩
  | 1, hp =>
    injection hp with hp; subst hp
    refine ⟨1, _, rfl, ?_⟩
    rcases hf with e | e
    · exact .inl e
    · exact .inr (by rw [← hs]; exact e)
  | 2, hp => exact ⟨2, _, rfl, by injection hp with hp; subst hp; exact hf⟩
  | 3, hp => exact ⟨3, _, rfl, by injection hp with hp; subst hp; exact hf⟩
  | 4, hp => exact ⟨4, _, rfl, by injection hp with hp; subst hp; exact hf⟩
  | 5, hp => exact ⟨5, _, rfl, by injection hp with hp; subst hp; exact hf⟩
  | 6, hp => exact ⟨6, _, rfl, by injection hp with hp; subst hp; exact hf⟩
  | i + 7, hp => simp [Wm.parts] at hp
/-- A draw. -/
def DrawnW (w w' : World) (base : Nat) (X : Wm) : Prop := ∃ s, PW w' base { X with ks := s, D := X.D.tail } ∧ s.ownBlock = X.ks.ownBlock ∧ Below base w w' ∧ Turns (fun k => k = X.kB) w w'
theorem draw_w {w : World} {base : Nat} {X : Wm} (h : PW w base X) : Calls Tryz.prog 9 #[Pw X.kB] w fun e w' => e = .returned (.int .u64 (drawN X.D X.most : Nat)) ∧ DrawnW w w' base X := by
  have hc := h.clock
  cases hD : X.D with
  | nil =>
    rw [hD] at hc
    refine (S3.draw_none hc).mono ?_
    rintro e w' ⟨rfl, rfl⟩
    exact ⟨rfl, X.ks, by rw [hD, show ({ X with ks := X.ks, D := [].tail } : Wm) = X from by cases X; dsimp only at hD; subst hD; rfl]; exact h, rfl, Below.refl _ _, Turns.refl _ _⟩
  | cons d D =>
    rw [hD] at hc
    refine (S3.draw_some hc).mono ?_
    rintro e w' ⟨rfl, s', c', ho, t⟩
    obtain ⟨hp, hb⟩ := t_clock (i := 1) h rfl c' (fun g hg => .inl (by rw [← ho]; exact hg)) (t.mono (fun k _ e => .inl e))
    exact ⟨rfl, s', by rw [hD]; exact hp, ho, hb, ⟨t.os, t.tape, t.output, t.size, t.block⟩⟩
set_option maxRecDepth 100000 in
set_option maxHeartbeats 4000000 in
/-- Accesses and calls together. -/
theorem steps_any {w : World} {base : Nat} {X : Wm} (h : PW w base X) (h1 : X.n ≤ 1000000000) (h2 : X.pn ≤ 1000000000) :
    Calls Tryz.prog 12 #[Pw X.wB] w fun e w' => e = .returned (.int .i64 ((X.n + X.pn : Nat) : Int)) ∧ Below w.heap.size w w' := by
  have hmf : ∀ (fn : Fn) (first cap : Array Value) (w : World), (Instr.makeFunc fn first cap).run Tryz.prog w = .ok (.func fn first cap) w := fun _ _ _ _ => rfl
  have hi0 : ∀ (x y : Value) (w : World), (Instr.index 114 (.agg #[x, y]) (.int .i64 0)).run Tryz.prog w = .ok x w := fun _ _ _ => by kernel_rfl
  have hi1 : ∀ (x y : Value) (w : World), (Instr.index 114 (.agg #[x, y]) (.int .i64 1)).run Tryz.prog w = .ok y w := fun _ _ _ => by kernel_rfl
  have HC := Lib.hid (fun (W : World) (b : Below w.heap.size w W) => S2.count_any W X.cB X.cM X.L X.n X.k X.a X.was X.is (h.new b).cells)
  have HP := Lib.hid (fun (W : World) (b : Below w.heap.size w W) => S4.pcount_any (h.new b).permits)
  have c0 := h.c0; have c2 := h.c2
  clear h
  obtain ⟨cB, cM, L, n, k, a, was, is, kb, kB, T, most, ks, D, pB, pf, pn, pk, pp, lB, lk, tb, tO, ts, tn, tM, nb, nB, ns, nD, wB, sp⟩ := X
  dsimp only at *
  have hw1 : IntKind.i64.wrap (0 + (n : Int)) = (n : Int) := by rw [IntKind.wrap_i64]; omega
  have hw2 : IntKind.i64.wrap ((n : Int) + (pn : Int)) = ((n + pn : Nat) : Int) := by rw [IntKind.wrap_i64]; omega
  have HG1 : Hid (Value.int IntKind.i64 (wrap64 (n : Int)) = .int .i64 (n : Int)) := Lib.hid (by rw [show wrap64 (n : Int) = n from by unfold wrap64; omega])
  have HG2 : Hid (Value.int IntKind.i64 (wrap64 ((n : Int) + (pn : Int))) = .int .i64 ((n + pn : Nat) : Int)) := Lib.hid (by rw [show wrap64 ((n : Int) + (pn : Int)) = ((n + pn : Nat) : Int) from by unfold wrap64; omega])
  clear h1 h2 hw1 hw2
  generalize ((n + pn : Nat) : Int) = tot at *
  go_enter Tryz.func12, Tryz.ntmps12
  go_wp2_with fail
  go_quiet (fail)
  go_wp2_with fail
  have HB0 : Hid (Below w.heap.size w (w.drewN nq)) := Lib.hid ⟨rfl, rfl, rfl, Nat.le_refl _, fun _ _ => rfl⟩
  go_loopg [3, 5, 19] 2 (fun q s3 s5 s19 wx => Below w.heap.size w wx ∧ ((q = 2 ∧ s19 = .int .i64 0 ∧ s3 = .int .i64 0) ∨ (q = 1 ∧ s19 = .int .i64 1 ∧ s3 = .int .i64 (n : Int)) ∨ (q = 0 ∧ s19 = .int .i64 2 ∧ s3 = .int .i64 tot)))
  case atStart => exact ⟨HB0.out, .inl ⟨rfl, rfl, rfl⟩⟩
  case round =>
    obtain ⟨hb, h⟩ := hrel
    have HB := Lib.hid hb
    clear hb
    rcases h with ⟨rfl, rfl, rfl⟩ | ⟨rfl, rfl, rfl⟩ | ⟨rfl, rfl, rfl⟩
    · go_wp2_with (go_at_call 38; refine (HC.out _ HB.out).mono ?_; rintro e w' ⟨rfl, rfl⟩)
      go_roundg 1
      case measure => omega
      case rel => exact ⟨HB.out, .inr (.inl ⟨rfl, rfl, HG1.out⟩)⟩
    · go_wp2_with (go_at_call 39; refine (HP.out _ HB.out).mono ?_; rintro e w' ⟨rfl, rfl⟩)
      go_roundg 0
      case measure => omega
      case rel => exact ⟨HB.out, .inr (.inr ⟨rfl, rfl, HG2.out⟩)⟩
    · go_wp2_with fail
      go_ret
      exact ⟨rfl, HB.out⟩
end Go.Proofs.YthafnphpcdbnlaaGreatDoor.S12
