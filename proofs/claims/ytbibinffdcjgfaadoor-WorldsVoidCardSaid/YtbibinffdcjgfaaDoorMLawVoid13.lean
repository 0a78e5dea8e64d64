/- Texts of this seat, one behind the other. -/
import Derived.Test.YtbibinffdcjgfaaDoorMLawVoid4
import Derived.Test.YtbibinffdcjgfaaDoorMLawVoid8
import Derived.Test.YtbibinffdcjgfaaDoorMLawVoid9
import Derived.Test.YtbibinffdcjgfaaDoorMLawVoid10
import Derived.Test.YtbibinffdcjgfaaDoorMLawVoid11
import Derived.Test.YtbibinffdcjgfaaDoorMLawVoid12
namespace Go.Proofs.YtbibinffdcjgfaaDoor.S12
open Go.Proofs.YtbibinffdcjgfaaDoor Go.Proofs.YtbibinffdcjgfaaDoor.S11
open Go.RowKit

/-- What stands in the cells of a new world. -/
def L02 : S2.LL := S2.newL (fun _ => 0) (fun _ => 2) 1
def cellsP (B : Nat) (M : Option Nat) (L : S2.LL) (n k a was is : Nat) : Part where
  ok w := S2.CellsAt w B M L n k a was is
  fp k := S2.Fp B M k
  lt w h k e := h.lt k e
  kept S w w' h t hs := h.kept (S := S) ⟨t.os, t.tape, t.output, t.size, t.block⟩ hs
def clockP (base B T most : Nat) (s : Value) (D : List Nat) : Part where
  ok w := S3.ClockAt w base B T most s D
  fp k := k = B ∨ s.ownBlock = some k
  lt w h k e := by
    rcases e with rfl | e
    · exact h.lt
    · exact (h.own.lt k e).2
  kept S w w' h t hs := h.kept (S := S) ⟨t.os, t.tape, t.output, t.size, t.block⟩ (hs B (.inl rfl)) (fun g e => hs g (.inr e))
def permitsP (B : Nat) (f : Nat → S4.Pk) (n kd pk : Int) : Part where
  ok w := S4.PkAt w B f n kd pk
  fp k := k = B
  lt w h k e := by rw [e]; exact h.lt
  kept S w w' h t hs := h.kept (T := S) t (hs B rfl)
def linksP (B : Nat) (S : S5.Lk) : Part where
  ok w := S5.Has w B S
  fp k := k = B
  lt w h k e := by rw [e]; exact h.lt
  kept S w w' h t hs := h.kept (T := S) ⟨t.os, t.tape, t.output, t.size, t.block⟩ (hs B rfl)
def tablesP (base : Nat) (own : Nat → Option S10.Role) (s : Value) (n : Nat) (M : Int → List S10.Bk) : Part where
  ok w := S10.St w base own s n M
  fp k := S10.Mine own k
  lt w h k e := (h.fp e).2
  kept S w w' h t hs := h.keep (S := S) ⟨t.os, t.tape, t.output, t.size, t.block⟩ hs
def notesP (T : Nat) (K : IntKind) (base p : Nat) (s : Value) (D : List S11.Nt) : Part where
  ok w := S11.LAt T K w base p s D
  fp k := k = p ∨ s.ownBlock = some k
  lt w h k e := by
    rcases e with rfl | e
    · exact h.lt
    · exact (h.own.lt k e).2
  kept S w w' h t hs := h.kept (S := S) t (hs p (.inl rfl)) (fun g e => hs g (.inr e))
section
variable {w w' : World} {base b0 i : Nat} {l : List Part}
theorem t_cells {B : Nat} {M : Option Nat} {L L' : S2.LL} {n k a was is n' k' a' was' is' : Nat} (h : Parts w base l) (hi : l[i]? = some (cellsP B M L n k a was is)) (hl : S2.Left w w' B M L' n' k' a' was' is') :
    ∃ M', Parts w' base (l.set i (cellsP B M' L' n' k' a' was' is')) ∧ Below base w w' := by
  obtain ⟨M', c, sm, t⟩ := hl
  refine ⟨M', h.turn hi (cellsP B M' L' n' k' a' was' is') c ⟨t.os, t.tape, t.output, t.size, t.block⟩ (fun k e => ?_)⟩
  rcases e with e | e
  · exact .inl (.inl e)
  · rcases sm k e with e | e
    · exact .inl (.inr e)
    · exact .inr e
theorem t_clock {B T most T' most' : Nat} {s s' : Value} {D D' : List Nat} (h : Parts w base l) (hi : l[i]? = some (clockP b0 B T most s D)) (c : S3.ClockAt w' b0 B T' most' s' D') (ho : ∀ g, s'.ownBlock = some g → s.ownBlock = some g ∨ w.heap.size ≤ g) (t : S3.Turns (fun k => k = B ∨ s.ownBlock = some k) w w') :
    Parts w' base (l.set i (clockP b0 B T' most' s' D')) ∧ Below base w w' := by
  refine h.turn hi (clockP b0 B T' most' s' D') c ⟨t.os, t.tape, t.output, t.size, t.block⟩ (fun k e => ?_)
  rcases e with e | e
  · exact .inl (.inl e)
  · rcases ho k e with e | e
    · exact .inl (.inr e)
    · exact .inr e
theorem t_permits {B : Nat} {f f' : Nat → S4.Pk} {n kd pk n' kd' pk' : Int} (h : Parts w base l) (hi : l[i]? = some (permitsP B f n kd pk)) (hp : S4.PSets w w' B f' n' kd' pk') :
    Parts w' base (l.set i (permitsP B f' n' kd' pk')) ∧ Below base w w' :=
  h.turn hi (permitsP B f' n' kd' pk') hp.1 hp.2.1 (fun k e => .inl e)
theorem t_links {B : Nat} {S S' : S5.Lk} (h : Parts w base l) (hi : l[i]? = some (linksP B S)) (hp : S5.Sets w w' B S') :
    Parts w' base (l.set i (linksP B S')) ∧ Below base w w' := by
  obtain ⟨c, t⟩ := hp
  exact h.turn hi (linksP B S') c ⟨t.os, t.tape, t.output, t.size, t.block⟩ (fun k e => .inl e)
theorem t_tables {own own' : Nat → Option S10.Role} {s : Value} {n n' : Nat} {M M' : Int → List S10.Bk} (h : Parts w base l) (hi : l[i]? = some (tablesP b0 own s n M)) (c : S10.St w' b0 own' s n' M') (t : S10.Turns (S10.Mine own) w w') (f : S10.Fresh own own' w) :
    Parts w' base (l.set i (tablesP b0 own' s n' M')) ∧ Below base w w' :=
  h.turn hi (tablesP b0 own' s n' M') c ⟨t.os, t.tape, t.output, t.size, t.block⟩ (fun k ⟨r, e⟩ => f k r e)
theorem t_notes {T p : Nat} {K : IntKind} {s : Value} {D F : List S11.Nt} (h : Parts w base l) (hi : l[i]? = some (notesP T K b0 p s D)) (hl : S11.Leaves T K w w' b0 p s F) :
    ∃ s', Parts w' base (l.set i (notesP T K b0 p s' F)) ∧ Below base w w' := by
  obtain ⟨s', c, ho, t⟩ := hl
  refine ⟨s', h.turn hi (notesP T K b0 p s' F) c t (fun k e => ?_)⟩
  rcases e with e | e
  · exact .inl (.inl e)
  · rcases ho with ho | ⟨g, ho, hg⟩
    · rw [ho] at e; exact .inl (.inr e)
    · rw [ho] at e; injection e with e; subst e; exact .inr hg
end
end Go.Proofs.YtbibinffdcjgfaaDoor.S12
namespace Go.Proofs.YtbibinffdcjgfaaDoor.S8
open Go.Proofs.YtbibinffdcjgfaaDoor
open Go.RowKit

abbrev Tm (a f : Nat) : Value := .agg #[.int .u64 a, .int .u64 f]
/-- A sum that stays at the greatest number of 64 bits. -/
def sat (a b : Nat) : Nat := if a + b ≤ 18446744073709551615 then a + b else 18446744073709551615
/-- A timer in a block of its own. -/
def TmAt (T : TypeId) (w : World) (B a f : Nat) : Prop := w.heap[B]? = some (.cells #[.int .u64 a, .int .u64 f] T (0, 0))
section
variable {T : TypeId} {w w' : World} {B a f : Nat}
theorem TmAt.lt (h : TmAt T w B a f) : B < w.heap.size := (Array.getElem?_eq_some_iff.1 h).1
theorem TmAt.c0 (h : TmAt T w B a f) : w.cell? ⟨B, 0, none⟩ = some (.int .u64 a) := by simp [World.cell?, show w.heap[B]? = _ from h]
theorem TmAt.c1 (h : TmAt T w B a f) : w.cell? ⟨B, 1, none⟩ = some (.int .u64 f) := by simp [World.cell?, show w.heap[B]? = _ from h]
theorem TmAt.z0 (h : TmAt T w B a f) : w.frozen? ⟨B, 0, none⟩ = false := by simp [World.frozen?, show w.heap[B]? = _ from h]
theorem TmAt.z1 (h : TmAt T w B a f) : w.frozen? ⟨B, 1, none⟩ = false := by simp [World.frozen?, show w.heap[B]? = _ from h]
theorem TmAt.new (h : TmAt T w B a f) (b : Below w.heap.size w w') : TmAt T w' B a f := (b.block B h.lt).trans h
theorem TmAt.put (h : TmAt T w B a f) (x y : Nat) : TmAt T ((w.setCell ⟨B, 0, none⟩ (.int .u64 x)).setCell ⟨B, 1, none⟩ (.int .u64 y)) B x y := by
  have h' : w.heap[B]? = _ := h
  simp [TmAt, World.setCell, Array.getElem?_modify, h']
theorem TmAt.made (w : World) (T : TypeId) (a f : Nat) : TmAt T (w.alloc (.cells #[.int .u64 a, .int .u64 f] T)) w.heap.size a f :=
  heap_alloc_new w _
end
theorem below1 (w : World) (o : Obj) : Below w.heap.size w (w.alloc o) := (Below.refl _ _).alloc (Nat.le_refl _) _
theorem begin_any (n : Nat) (w : World) : Calls Tryd.prog 57 #[.int .u64 n] w fun e w' => e = .returned (Tm n n) ∧ Below w.heap.size w w' := by
  go_enter Tryd.func57, Tryd.ntmps57
  go_wp2
  exact bodyPost_ret (v := Tm n n) (by simp [results, Tryd.results57, go_sem]) rfl ⟨rfl, (Below.refl _ _).alloc (Nat.le_refl _) _⟩
theorem due_any (a f n : Nat) (w : World) : Calls Tryd.prog 20 #[Tm a f, .int .u64 n] w fun e w' => e = .returned (.bool (decide (a < n))) ∧ Below w.heap.size w w' := by
  go_enter Tryd.func20, Tryd.ntmps20
  go_wp2
  go_ret
  exact ⟨rfl, (Below.refl _ _).alloc (Nat.le_refl _) _⟩
theorem fix_any (p q : Addr) (x n : Nat) (w : World) (hp : w.cell? p = some (.int .u64 x)) (hz : w.frozen? p = false) (hq : w.cell? q = some (.int .u64 n)) :
    CallsD Tryd.prog 52 #[.pointer (some p), .pointer (some q)] .returning w fun e u' w' => u' = .returning ∧ e = .returned (.tuple #[]) ∧ w' = if x < n then w.setCell p (.int .u64 (18446744073709551615 : Nat)) else w := by
  by_cases h : x < n
  · rw [if_pos h]
    go_enter_d Tryd.func52, Tryd.ntmps52
    go_wp2
    go_end0
    exact ⟨rfl, rfl⟩
  · rw [if_neg h]
    go_enter_d Tryd.func52, Tryd.ntmps52
    go_wp2
    go_end0
    exact ⟨rfl, rfl⟩
/-- A sum of 64 bits, as it goes round. -/
def rnd (a b : Nat) : Nat := (a + b) % 18446744073709551616
theorem rnd_wrap (a b : Nat) : IntKind.u64.wrap ((a : Int) + (b : Int)) = ((rnd a b : Nat) : Int) := by
  rw [IntKind.wrap_u64]; unfold rnd; omega
theorem rnd_sat {a b : Nat} (ha : a ≤ 18446744073709551615) (hb : b ≤ 18446744073709551615) : (if rnd a b < a then 18446744073709551615 else rnd a b) = sat a b := by
  unfold rnd sat
  split <;> split <;> omega
theorem end_any (n d : Nat) (hn : n ≤ 18446744073709551615) (hd : d ≤ 18446744073709551615) (w : World) : Calls Tryd.prog 38 #[.int .u64 n, .int .u64 d] w fun e w' => e = .returned (.int .u64 (sat n d : Nat)) ∧ Below w.heap.size w w' := by
  have hmf : ∀ (fn : Fn) (first cap : Array Value) (w : World), (Instr.makeFunc fn first cap).run Tryd.prog w = .ok (.func fn first cap) w := fun _ _ _ _ => rfl
  have hr := rnd_wrap n d
  have hs := rnd_sat hn hd
  generalize sat n d = r at *
  generalize rnd n d = s at *
  clear hn hd
  have HS := Lib.hid hs
  clear hs
  go_enter_defers Tryd.func38, Tryd.ntmps38
  go_wp2
  refine leaves_cons (f := 52) (args := #[.pointer (some ⟨w.heap.size + 1, 0, none⟩), .pointer (some ⟨w.heap.size, 0, none⟩)]) (by simp) (by simp [go_sem]) ?_
  refine (fix_any ⟨w.heap.size + 1, 0, none⟩ ⟨w.heap.size, 0, none⟩ s n _ (by simp [go_sem]) (by simp [go_sem]) (by simp [go_sem, World.cell?_alloc_lt])).mono ?_
  rintro e u' w'' ⟨rfl, rfl, rfl⟩
  have hb : Below w.heap.size w ((w.alloc (Obj.cells #[Value.int IntKind.u64 n] 24)).alloc (Obj.cells #[Value.int IntKind.u64 s] 24)) := ((Below.refl _ _).alloc (Nat.le_refl _) _).alloc (by simp) _
  by_cases h : s < n
  · have e := HS.out
    rw [if_pos h] at e
    subst e
    rw [if_pos h]
    simp [Leaves, settle, results, Tryd.results38, go_sem]
    exact ((Below.refl _ _).alloc (Nat.le_refl _) _).alloc (by simp) _
  · have e := HS.out
    rw [if_neg h] at e
    subst e
    rw [if_neg h]
    simp [Leaves, settle, results, Tryd.results38, go_sem]
    exact hb
/-- What a timer is that was asked, and whether it fired. -/
def firA (a n d : Nat) : Nat := if a < n then sat n d else a
def firF (a f n : Nat) : Nat := if a < n then n else f
/-- Two timers' blocks, made one behind the other: what comes in, and an empty one. -/
theorem two_made (T : TypeId) (w : World) (a f : Nat) : TmAt T ((w.alloc (.cells #[.int .u64 a, .int .u64 f] T)).alloc (.cells #[.int .u64 0, .int .u64 0] T)) w.heap.size a f
    ∧ TmAt T ((w.alloc (.cells #[.int .u64 a, .int .u64 f] T)).alloc (.cells #[.int .u64 0, .int .u64 0] T)) (w.heap.size + 1) 0 0
    ∧ Below w.heap.size w ((w.alloc (.cells #[.int .u64 a, .int .u64 f] T)).alloc (.cells #[.int .u64 0, .int .u64 0] T)) := by
  refine ⟨(TmAt.made w T a f).new (below1 _ _), ?_, (below1 w _).alloc (by simp) _⟩
  have h := TmAt.made (w.alloc (.cells #[.int .u64 a, .int .u64 f] T)) T 0 0
  rw [show (w.alloc (.cells #[.int .u64 a, .int .u64 f] T)).heap.size = w.heap.size + 1 by simp] at h
  exact h
theorem fire_any (a f n d : Nat) (hn : n ≤ 18446744073709551615) (hd : d ≤ 18446744073709551615) (w : World) : Calls Tryd.prog 21 #[Tm a f, .int .u64 n, .int .u64 d] w fun e w' => e = .returned (.tuple #[Tm (firA a n d) (firF a f n), .bool (decide (a < n))]) ∧ Below w.heap.size w w' := by
  have q := due_any a f n
  have r := end_any n d hn hd
  unfold firA firF
  have Q := Lib.hid q; have R := Lib.hid r
  clear q r
  generalize sat n d = s at *
  clear hn hd
  obtain ⟨a1, a2, hb⟩ := two_made 65 w a f
  by_cases h : a < n
  · rw [if_pos h, if_pos h]
    rw [decide_eq_true h] at Q ⊢
    clear h
    go_enter Tryd.func21, Tryd.ntmps21
    go_upto_region 1 with (fail)
    generalize (w.alloc (.cells #[.int .u64 a, .int .u64 f] 65)).alloc (.cells #[.int .u64 0, .int .u64 0] 65) = w1 at *
    have c0 := a1.c0; have c1 := a1.c1
    have A2 := Lib.hid a2; have HB := Lib.hid hb
    clear a1 a2 hb
    go_wp2_with fail
    refine (Q.out _).mono ?_
    rintro e w2 ⟨rfl, b2⟩
    have A3 := Lib.hid (A2.out.new b2)
    have HB2 := Lib.hid (HB.out.trans (b2.mono HB.out.size))
    clear b2
    go_wp2_with fail
    refine (R.out _).mono ?_
    rintro e w3 ⟨rfl, b3⟩
    have a4 := A3.out.new b3
    have HB3 := Lib.hid (HB2.out.trans (b3.mono HB2.out.size))
    have c0 := a4.c0; have c1 := a4.c1; have z0 := a4.z0; have z1 := a4.z1
    have h4 := a4.put s n
    have d0 := h4.c0; have d1 := h4.c1
    have hB : w.heap.size ≤ w.heap.size + 1 := Nat.le_succ _
    clear a4 h4 b3
    go_wp2_with fail
    exact bodyPost_ret (v := .tuple #[Tm s n, .bool true]) (by simp [results, Tryd.results21, go_sem, d0, d1]) rfl ⟨rfl, (HB3.out.setCell (p := ⟨w.heap.size + 1, 0, none⟩) hB _).setCell (p := ⟨w.heap.size + 1, 1, none⟩) hB _⟩
  · rw [if_neg h, if_neg h]
    rw [decide_eq_false h] at Q ⊢
    clear h
    go_enter Tryd.func21, Tryd.ntmps21
    go_upto_region 1 with (fail)
    generalize (w.alloc (.cells #[.int .u64 a, .int .u64 f] 65)).alloc (.cells #[.int .u64 0, .int .u64 0] 65) = w1 at *
    have c0 := a1.c0; have c1 := a1.c1
    have A1 := Lib.hid a1; have A2 := Lib.hid a2; have HB := Lib.hid hb
    clear a1 a2 hb
    go_wp2_with fail
    refine (Q.out _).mono ?_
    rintro e w2 ⟨rfl, b2⟩
    have a4 := A2.out.new b2
    have a5 := A1.out.new b2
    have HB2 := Lib.hid (HB.out.trans (b2.mono HB.out.size))
    clear b2 c0 c1
    have c0 := a4.c0; have c1 := a4.c1; have z0 := a4.z0; have z1 := a4.z1
    have e0 := a5.c0; have e1 := a5.c1
    have h4 := a4.put a f
    have d0 := h4.c0; have d1 := h4.c1
    have hB : w.heap.size ≤ w.heap.size + 1 := Nat.le_succ _
    clear a4 a5 h4
    go_wp2_with fail
    exact bodyPost_ret (v := .tuple #[Tm a f, .bool false]) (by simp [results, Tryd.results21, go_sem, d0, d1]) rfl ⟨rfl, (HB2.out.setCell (p := ⟨w.heap.size + 1, 0, none⟩) hB _).setCell (p := ⟨w.heap.size + 1, 1, none⟩) hB _⟩
end Go.Proofs.YtbibinffdcjgfaaDoor.S8
namespace Go.Proofs.YtbibinffdcjgfaaDoor.S8
open Go.Proofs.YtbibinffdcjgfaaDoor
open Go.RowKit


/-- The literal calls of the chapter's examples. -/
theorem eq24 (a f x y : Nat) (w : World) : (binOp .eql 65 (Tm a f) (Tm x y)).run Tryd.prog w = .ok (.bool (decide (a = x) && decide (f = y))) w := by
  simp [go_sem, Tryd.underlying65]
  by_cases h1 : a = x <;> by_cases h2 : f = y <;> simp [h1, h2] <;> omega
theorem neq24 (a f x y : Nat) (w : World) : (binOp .neq 65 (Tm a f) (Tm x y)).run Tryd.prog w = .ok (.bool (!(decide (a = x) && decide (f = y)))) w := by
  simp [go_sem, Tryd.underlying65]
  by_cases h1 : a = x <;> by_cases h2 : f = y <;> simp [h1, h2] <;> omega
/-- A timer in a block of its own, written in literals. -/
def LitAt (T : TypeId) (w : World) (B : Nat) (a f : Int) : Prop := w.heap[B]? = some (.cells #[.int .u64 a, .int .u64 f] T (0, 0))
section
variable {T : TypeId} {w w' : World} {B : Nat} {a f : Int}
theorem LitAt.lt (h : LitAt T w B a f) : B < w.heap.size := (Array.getElem?_eq_some_iff.1 h).1
theorem LitAt.c0 (h : LitAt T w B a f) : w.cell? ⟨B, 0, none⟩ = some (.int .u64 a) := by simp [World.cell?, show w.heap[B]? = _ from h]
theorem LitAt.c1 (h : LitAt T w B a f) : w.cell? ⟨B, 1, none⟩ = some (.int .u64 f) := by simp [World.cell?, show w.heap[B]? = _ from h]
theorem LitAt.new (h : LitAt T w B a f) (b : Below w.heap.size w w') : LitAt T w' B a f := (b.block B h.lt).trans h
theorem LitAt.made (w : World) (T : TypeId) (a f : Int) : LitAt T (w.alloc (.cells #[.int .u64 a, .int .u64 f] T)) w.heap.size a f :=
  heap_alloc_new w _
end
end Go.Proofs.YtbibinffdcjgfaaDoor.S8
namespace Go.Proofs.YtbibinffdcjgfaaDoor.S12
open Go.Proofs.YtbibinffdcjgfaaDoor Go.Proofs.YtbibinffdcjgfaaDoor.S11
open Go.RowKit

/-- A cell of an old block stays. -/
theorem bcell {w w' : World} {a : Addr} {v : Value} (h : Below w.heap.size w w') (hc : w.cell? a = some v) : w'.cell? a = some v := by
  have hl : a.block < w.heap.size := by
    unfold World.cell? at hc
    cases hb : w.heap[a.block]? with
    | none => simp [hb] at hc
    | some x => exact (Array.getElem?_eq_some_iff.1 hb).1
  exact (h.cell hl).trans hc
abbrev TmI (a f : Int) : Value := .agg #[.int .u64 a, .int .u64 f]
def TmIn (w : World) (B : Nat) (a f : Int) : Prop := w.heap[B]? = some (.cells #[.int .u64 a, .int .u64 f] 65 (0, 0))
section
variable {w w' : World} {B : Nat} {a f : Int}
theorem TmIn.lt (h : TmIn w B a f) : B < w.heap.size := (Array.getElem?_eq_some_iff.1 h).1
theorem TmIn.c0 (h : TmIn w B a f) : w.cell? ⟨B, 0, none⟩ = some (.int .u64 a) := by simp [World.cell?, show w.heap[B]? = _ from h]
theorem TmIn.c1 (h : TmIn w B a f) : w.cell? ⟨B, 1, none⟩ = some (.int .u64 f) := by simp [World.cell?, show w.heap[B]? = _ from h]
theorem TmIn.z0 (h : TmIn w B a f) : w.frozen? ⟨B, 0, none⟩ = false := by simp [World.frozen?, show w.heap[B]? = _ from h]
theorem TmIn.z1 (h : TmIn w B a f) : w.frozen? ⟨B, 1, none⟩ = false := by simp [World.frozen?, show w.heap[B]? = _ from h]
theorem TmIn.new (h : TmIn w B a f) (b : Below w.heap.size w w') : TmIn w' B a f := (b.block B h.lt).trans h
theorem TmIn.put (h : TmIn w B a f) (x y : Int) : TmIn ((w.setCell ⟨B, 0, none⟩ (.int .u64 x)).setCell ⟨B, 1, none⟩ (.int .u64 y)) B x y := by
  have h' : w.heap[B]? = _ := h
  simp [TmIn, World.setCell, Array.getElem?_modify, h']
theorem TmIn.made (w : World) (a f : Int) : TmIn (w.alloc (.cells #[.int .u64 a, .int .u64 f] 65)) w.heap.size a f := heap_alloc_new w _
end
theorem due_int (a f : Int) (n : Nat) (w : World) : Calls Tryd.prog 20 #[TmI a f, .int .u64 n] w fun e w' => e = .returned (.bool (decide (a < (n : Int)))) ∧ Below w.heap.size w w' := by
  go_enter Tryd.func20, Tryd.ntmps20
  go_wp2
  go_ret
  exact ⟨rfl, (Below.refl _ _).alloc (Nat.le_refl _) _⟩
theorem two_int (w : World) (a f : Int) : TmIn ((w.alloc (.cells #[.int .u64 a, .int .u64 f] 65)).alloc (.cells #[.int .u64 0, .int .u64 0] 65)) w.heap.size a f
    ∧ TmIn ((w.alloc (.cells #[.int .u64 a, .int .u64 f] 65)).alloc (.cells #[.int .u64 0, .int .u64 0] 65)) (w.heap.size + 1) 0 0
    ∧ Below w.heap.size w ((w.alloc (.cells #[.int .u64 a, .int .u64 f] 65)).alloc (.cells #[.int .u64 0, .int .u64 0] 65)) := by
  refine ⟨(TmIn.made w a f).new (S8.below1 _ _), ?_, (S8.below1 w _).alloc (by simp) _⟩
  have h := TmIn.made (w.alloc (.cells #[.int .u64 a, .int .u64 f] 65)) 0 0
  rw [show (w.alloc (.cells #[.int .u64 a, .int .u64 f] 65)).heap.size = w.heap.size + 1 by simp] at h
  exact h
theorem fire_yes (a f : Int) (n d : Nat) (h : a < (n : Int)) (hn : n ≤ 18446744073709551615) (hd : d ≤ 18446744073709551615) (w : World) :
    Calls Tryd.prog 21 #[TmI a f, .int .u64 n, .int .u64 d] w fun e w' => e = .returned (.tuple #[TmI (S8.sat n d : Nat) n, .bool true]) ∧ Below w.heap.size w w' := by
  have q := due_int a f n
  have r := S8.end_any n d hn hd
  have Q := Lib.hid q; have R := Lib.hid r
  clear q r
  generalize S8.sat n d = s at *
  clear hn hd
  obtain ⟨a1, a2, hb⟩ := two_int w a f
  rw [decide_eq_true h] at Q
  clear h
  go_enter Tryd.func21, Tryd.ntmps21
  go_upto_region 1 with (fail)
  generalize (w.alloc (.cells #[.int .u64 a, .int .u64 f] 65)).alloc (.cells #[.int .u64 0, .int .u64 0] 65) = w1 at *
  have c0 := a1.c0; have c1 := a1.c1
  have A2 := Lib.hid a2; have HB := Lib.hid hb
  clear a1 a2 hb
  go_wp2_with fail
  refine (Q.out _).mono ?_
  rintro e w2 ⟨rfl, b2⟩
  have A3 := Lib.hid (A2.out.new b2)
  have HB2 := Lib.hid (HB.out.trans (b2.mono HB.out.size))
  clear b2
  go_wp2_with fail
  refine (R.out _).mono ?_
  rintro e w3 ⟨rfl, b3⟩
  have a4 := A3.out.new b3
  have HB3 := Lib.hid (HB2.out.trans (b3.mono HB2.out.size))
  have c0 := a4.c0; have c1 := a4.c1; have z0 := a4.z0; have z1 := a4.z1
  have h4 := a4.put (s : Int) (n : Int)
  have d0 := h4.c0; have d1 := h4.c1
  have hB : w.heap.size ≤ w.heap.size + 1 := Nat.le_succ _
  clear a4 h4 b3
  go_wp2_with fail
  exact bodyPost_ret (v := .tuple #[TmI (s : Int) (n : Int), .bool true]) (by simp [results, Tryd.results21, go_sem, d0, d1]) rfl ⟨rfl, (HB3.out.setCell (p := ⟨w.heap.size + 1, 0, none⟩) hB _).setCell (p := ⟨w.heap.size + 1, 1, none⟩) hB _⟩
end Go.Proofs.YtbibinffdcjgfaaDoor.S12
namespace Go.Proofs.YtbibinffdcjgfaaDoor.S12
open Go.Proofs.YtbibinffdcjgfaaDoor Go.Proofs.YtbibinffdcjgfaaDoor.S11
open Go.RowKit

noncomputable def pcells (a b c d e f : Value) (spin : Int) : Array Value := ((((((Tryd.zeroCells43.setIfInBounds 0 a).setIfInBounds 1 b).setIfInBounds 2 c).setIfInBounds 3 d).setIfInBounds 4 e).setIfInBounds 5 f).setIfInBounds 6 (.int .i64 spin)
theorem zsize : Tryd.zeroCells43.size = 71 := by kernel_rfl
theorem pc0 (a b c d e f : Value) (sp : Int) : (pcells a b c d e f sp)[0]? = some a := by
  simp [pcells, Array.getElem?_setIfInBounds, zsize]
theorem pc1 (a b c d e f : Value) (sp : Int) : (pcells a b c d e f sp)[1]? = some b := by
  simp [pcells, Array.getElem?_setIfInBounds, zsize]
theorem pc2 (a b c d e f : Value) (sp : Int) : (pcells a b c d e f sp)[2]? = some c := by
  simp [pcells, Array.getElem?_setIfInBounds, zsize]
theorem pc3 (a b c d e f : Value) (sp : Int) : (pcells a b c d e f sp)[3]? = some d := by
  simp [pcells, Array.getElem?_setIfInBounds, zsize]
theorem pc4 (a b c d e f : Value) (sp : Int) : (pcells a b c d e f sp)[4]? = some e := by
  simp [pcells, Array.getElem?_setIfInBounds, zsize]
theorem pc5 (a b c d e f : Value) (sp : Int) : (pcells a b c d e f sp)[5]? = some f := by
  simp [pcells, Array.getElem?_setIfInBounds, zsize]
theorem pc6 (a b c d e f : Value) (sp : Int) : (pcells a b c d e f sp)[6]? = some (.int .i64 sp) := by
  simp [pcells, Array.getElem?_setIfInBounds, zsize]
/-- Where the things of a world of the program's stand, and what they say. -/
structure Wm where
  cB : Nat
  cM : Option Nat
  L : S2.LL
  n : Nat
  k : Nat
  a : Nat
  was : Nat
  is : Nat
  kb : Nat
  kB : Nat
  T : Nat
  most : Nat
  ks : Value
  D : List Nat
  pB : Nat
  pf : Nat → S4.Pk
  pn : Nat
  pk : Int
  pp : Int
  lB : Nat
  lk : S5.Lk
  tb : Nat
  tO : Nat → Option S10.Role
  ts : Value
  tn : Nat
  tM : Int → List S10.Bk
  nb : Nat
  nB : Nat
  ns : Value
  nD : List Nt
  wB : Nat
  sp : Int
abbrev Pw (B : Nat) : Value := .pointer (some ⟨B, 0, none⟩)
noncomputable def Wm.cs (X : Wm) : Array Value := pcells (Pw X.cB) (Pw X.kB) (Pw X.pB) (Pw X.lB) X.ts (Pw X.nB) X.sp
noncomputable def Wm.parts (X : Wm) : List Part := [cellsP X.cB X.cM X.L X.n X.k X.a X.was X.is, clockP X.kb X.kB X.T X.most X.ks X.D, permitsP X.pB X.pf (X.pn : Int) X.pk X.pp, linksP X.lB X.lk, tablesP X.tb X.tO X.ts X.tn X.tM, notesP 74 .u8 X.nb X.nB X.ns X.nD, blockP X.wB (.cells X.cs 43)]
def PW (w : World) (base : Nat) (X : Wm) : Prop := Parts w base X.parts
section
variable {w w' : World} {base : Nat} {X : Wm}
theorem PW.cells (h : PW w base X) : S2.CellsAt w X.cB X.cM X.L X.n X.k X.a X.was X.is := h.ok 0 _ rfl
theorem PW.clock (h : PW w base X) : S3.ClockAt w X.kb X.kB X.T X.most X.ks X.D := h.ok 1 _ rfl
theorem PW.permits (h : PW w base X) : S4.PkAt w X.pB X.pf (X.pn : Int) X.pk X.pp := h.ok 2 _ rfl
theorem PW.links (h : PW w base X) : S5.Has w X.lB X.lk := h.ok 3 _ rfl
theorem PW.tables (h : PW w base X) : S10.St w X.tb X.tO X.ts X.tn X.tM := h.ok 4 _ rfl
theorem PW.notes (h : PW w base X) : S11.LAt 74 .u8 w X.nb X.nB X.ns X.nD := h.ok 5 _ rfl
theorem PW.own (h : PW w base X) : w.heap[X.wB]? = some (.cells X.cs 43) := h.ok 6 _ rfl
theorem PW.new (h : PW w base X) (b : Below w.heap.size w w') : PW w' base X := Parts.new h b
theorem PW.drew (h : PW w base X) : PW w.drew base X := Parts.drew h
theorem PW.size (h : PW w base X) : base ≤ w.heap.size := Parts.size h
theorem PW.c0 (h : PW w base X) : w.cell? ⟨X.wB, 0, none⟩ = some (Pw X.cB) := (cell_row h.own 0).trans (pc0 _ _ _ _ _ _ _)
theorem PW.c1 (h : PW w base X) : w.cell? ⟨X.wB, 1, none⟩ = some (Pw X.kB) := (cell_row h.own 1).trans (pc1 _ _ _ _ _ _ _)
theorem PW.c2 (h : PW w base X) : w.cell? ⟨X.wB, 2, none⟩ = some (Pw X.pB) := (cell_row h.own 2).trans (pc2 _ _ _ _ _ _ _)
theorem PW.c3 (h : PW w base X) : w.cell? ⟨X.wB, 3, none⟩ = some (Pw X.lB) := (cell_row h.own 3).trans (pc3 _ _ _ _ _ _ _)
theorem PW.c4 (h : PW w base X) : w.cell? ⟨X.wB, 4, none⟩ = some X.ts := (cell_row h.own 4).trans (pc4 _ _ _ _ _ _ _)
theorem PW.c5 (h : PW w base X) : w.cell? ⟨X.wB, 5, none⟩ = some (Pw X.nB) := (cell_row h.own 5).trans (pc5 _ _ _ _ _ _ _)
theorem PW.c6 (h : PW w base X) : w.cell? ⟨X.wB, 6, none⟩ = some (.int .i64 X.sp) := (cell_row h.own 6).trans (pc6 _ _ _ _ _ _ _)
end
/-- The blocks of a world of the program's. -/
def Foot (X : Wm) (k : Nat) : Prop := ∃ (i : Nat) (p : Part), X.parts[i]? = some p ∧ p.fp k
theorem PW.foot_lt {w : World} {base : Nat} {X : Wm} (h : PW w base X) {k : Nat} (hk : Foot X k) : k < w.heap.size := by
  obtain ⟨i, p, hp, hf⟩ := hk
  exact p.lt w (h.ok i p hp) k hf
theorem PW.foot_ge {w : World} {base : Nat} {X : Wm} (h : PW w base X) {k : Nat} (hk : Foot X k) : base ≤ k := by
  obtain ⟨i, p, hp, hf⟩ := hk
  exact h.low i p hp k hf
theorem PW.keep {S : Nat → Prop} {w w' : World} {base : Nat} {X : Wm} (h : PW w base X) (t : Turns S w w') (hs : ∀ k, Foot X k → ¬ S k) : PW w' base X :=
  Parts.kept h t (fun i p hp k hk => hs k ⟨i, p, hp, hk⟩)
/-- What is drawn next. -/
def drawN (D : List Nat) (most : Nat) : Nat := match D with
  | [] => 0
  | d :: _ => S3.brt d most
theorem drawN_le {T most : Nat} {D : List Nat} (h : S3.Nums T most D) : drawN D most ≤ 18446744073709551615 := by
  cases D with
  | nil => exact Nat.zero_le _
  | cons d D => exact Nat.le_trans (Nat.mod_le _ _) (h.all d (by simp))
theorem foot_clock {X : Wm} {s : Value} {D : List Nat} {T : Nat} (hs : s.ownBlock = X.ks.ownBlock) {k : Nat} (h : Foot { X with ks := s, D := D, T := T } k) : Foot X k := by
  obtain ⟨i, p, hp, hf⟩ := h
  match i, hp with
  | 0, hp => exact ⟨0, _, rfl, by injection hp with hp; subst hp; exact hf⟩
  | 1, hp =>
    injection hp with hp; subst hp
    refine ⟨1, _, rfl, ?_⟩
    rcases hf with e | e
    · exact .inl e
    · exact .inr (by rw [← hs]; exact e)
  | 2, hp => exact ⟨2, _, rfl, by injection hp with hp; subst hp; exact hf⟩
  | 3, hp => exact ⟨3, _, rfl, by injection hp with hp; subst hp; exact hf⟩
  | 4, hp => exact ⟨4, _, rfl, by injection hp with hp; subst hp; exact hf⟩
  | 5, hp => exact ⟨5, _, rfl, by injection hp with hp; subst hp; exact hf⟩
  | 6, hp => exact ⟨6, _, rfl, by injection hp with hp; subst hp; exact hf⟩
  | i + 7, hp => simp [Wm.parts] at hp
/-- A draw. -/
def DrawnW (w w' : World) (base : Nat) (X : Wm) : Prop := ∃ s, PW w' base { X with ks := s, D := X.D.tail } ∧ s.ownBlock = X.ks.ownBlock ∧ Below base w w' ∧ Turns (fun k => k = X.kB) w w'
theorem draw_w {w : World} {base : Nat} {X : Wm} (h : PW w base X) : Calls Tryd.prog 22 #[Pw X.kB] w fun e w' => e = .returned (.int .u64 (drawN X.D X.most : Nat)) ∧ DrawnW w w' base X := by
  have hc := h.clock
  cases hD : X.D with
  | nil =>
    rw [hD] at hc
    refine (S3.draw_none hc).mono ?_
    rintro e w' ⟨rfl, rfl⟩
    exact ⟨rfl, X.ks, by rw [hD, show ({ X with ks := X.ks, D := [].tail } : Wm) = X from by cases X; dsimp only at hD; subst hD; rfl]; exact h, rfl, Below.refl _ _, Turns.refl _ _⟩
  | cons d D =>
    rw [hD] at hc
    refine (S3.draw_some hc).mono ?_
    rintro e w' ⟨rfl, s', c', ho, t⟩
    obtain ⟨hp, hb⟩ := t_clock (i := 1) h rfl c' (fun g hg => .inl (by rw [← ho]; exact hg)) (t.mono (fun k _ e => .inl e))
    exact ⟨rfl, s', by rw [hD]; exact hp, ho, hb, ⟨t.os, t.tape, t.output, t.size, t.block⟩⟩
set_option maxRecDepth 100000 in
set_option maxHeartbeats 4000000 in
/-- Accesses and calls together. -/
theorem steps_any {w : World} {base : Nat} {X : Wm} (h : PW w base X) (h1 : X.n ≤ 1000000000) (h2 : X.pn ≤ 1000000000) :
    Calls Tryd.prog 7 #[Pw X.wB] w fun e w' => e = .returned (.int .i64 ((X.n + X.pn : Nat) : Int)) ∧ Below w.heap.size w w' := by
  have hmf : ∀ (fn : Fn) (first cap : Array Value) (w : World), (Instr.makeFunc fn first cap).run Tryd.prog w = .ok (.func fn first cap) w := fun _ _ _ _ => rfl
  have hi0 : ∀ (x y : Value) (w : World), (Instr.index 63 (.agg #[x, y]) (.int .i64 0)).run Tryd.prog w = .ok x w := fun _ _ _ => by kernel_rfl
  have hi1 : ∀ (x y : Value) (w : World), (Instr.index 63 (.agg #[x, y]) (.int .i64 1)).run Tryd.prog w = .ok y w := fun _ _ _ => by kernel_rfl
  have HC := Lib.hid (fun (W : World) (b : Below w.heap.size w W) => S2.count_any W X.cB X.cM X.L X.n X.k X.a X.was X.is (h.new b).cells)
  have HP := Lib.hid (fun (W : World) (b : Below w.heap.size w W) => S4.pcount_any (h.new b).permits)
  have c0 := h.c0; have c2 := h.c2
  clear h
  obtain ⟨cB, cM, L, n, k, a, was, is, kb, kB, T, most, ks, D, pB, pf, pn, pk, pp, lB, lk, tb, tO, ts, tn, tM, nb, nB, ns, nD, wB, sp⟩ := X
  dsimp only at *
  have hw1 : IntKind.i64.wrap (0 + (n : Int)) = (n : Int) := by rw [IntKind.wrap_i64]; omega
  have hw2 : IntKind.i64.wrap ((n : Int) + (pn : Int)) = ((n + pn : Nat) : Int) := by rw [IntKind.wrap_i64]; omega
  have HG1 : Hid (Value.int IntKind.i64 (wrap64 (n : Int)) = .int .i64 (n : Int)) := Lib.hid (by rw [show wrap64 (n : Int) = n from by unfold wrap64; omega])
  have HG2 : Hid (Value.int IntKind.i64 (wrap64 ((n : Int) + (pn : Int))) = .int .i64 ((n + pn : Nat) : Int)) := Lib.hid (by rw [show wrap64 ((n : Int) + (pn : Int)) = ((n + pn : Nat) : Int) from by unfold wrap64; omega])
  clear h1 h2 hw1 hw2
  generalize ((n + pn : Nat) : Int) = tot at *
  go_enter Tryd.func7, Tryd.ntmps7
  go_wp2_with fail
  go_quiet (fail)
  go_wp2_with fail
  have HB0 : Hid (Below w.heap.size w (w.drewN nq)) := Lib.hid ⟨rfl, rfl, rfl, Nat.le_refl _, fun _ _ => rfl⟩
  go_loopg [3, 5, 19] 2 (fun q s3 s5 s19 wx => Below w.heap.size w wx ∧ ((q = 2 ∧ s19 = .int .i64 0 ∧ s3 = .int .i64 0) ∨ (q = 1 ∧ s19 = .int .i64 1 ∧ s3 = .int .i64 (n : Int)) ∨ (q = 0 ∧ s19 = .int .i64 2 ∧ s3 = .int .i64 tot)))
  case atStart => exact ⟨HB0.out, .inl ⟨rfl, rfl, rfl⟩⟩
  case round =>
    obtain ⟨hb, h⟩ := hrel
    have HB := Lib.hid hb
    clear hb
    rcases h with ⟨rfl, rfl, rfl⟩ | ⟨rfl, rfl, rfl⟩ | ⟨rfl, rfl, rfl⟩
    · go_wp2_with (go_at_call 16; refine (HC.out _ HB.out).mono ?_; rintro e w' ⟨rfl, rfl⟩)
      go_roundg 1
      case measure => omega
      case rel => exact ⟨HB.out, .inr (.inl ⟨rfl, rfl, HG1.out⟩)⟩
    · go_wp2_with (go_at_call 17; refine (HP.out _ HB.out).mono ?_; rintro e w' ⟨rfl, rfl⟩)
      go_roundg 0
      case measure => omega
      case rel => exact ⟨HB.out, .inr (.inr ⟨rfl, rfl, HG2.out⟩)⟩
    · go_wp2_with fail
      go_ret
      exact ⟨rfl, HB.out⟩
end Go.Proofs.YtbibinffdcjgfaaDoor.S12
namespace Go.Proofs.YtbibinffdcjgfaaDoor.S12
open Go.Proofs.YtbibinffdcjgfaaDoor Go.Proofs.YtbibinffdcjgfaaDoor.S11
open Go.RowKit

/-- One note more, where it may be. -/
def Noted (w w' : World) (base : Nat) (X : Wm) (x : Nt) : Prop := ∃ s, PW w' base { X with ns := s, nD := addD X.nD x } ∧ Below base w w'
set_option maxRecDepth 100000 in
set_option maxHeartbeats 4000000 in
theorem noteOf_any {w : World} {base : Nat} {X : Wm} (h : PW w base X) (h1 : X.n ≤ 1000000000) (h2 : X.pn ≤ 1000000000) (hl : X.nD.length ≤ 100000) (hT : Tab w) (t a o b : Int) (k : Nat) (hk : k < 256) :
    Calls Tryd.prog 6 #[Pw X.wB, .int .i64 t, .int .u8 (k : Int), .int .u32 a, .int .i64 o, .int .u32 b] w fun e w' => e = .returned (.tuple #[]) ∧ Noted w w' base X ⟨((X.n + X.pn : Nat) : Int), t, k, a, o, b, 0⟩ := by
  have hb : X.nb ≤ w.heap.size := Nat.le_of_lt (Nat.lt_of_le_of_lt h.notes.low h.notes.lt)
  have HST := Lib.hid (fun (W : World) (b : Below w.heap.size w W) => steps_any (h.new b) h1 h2)
  have HC5 := Lib.hid (fun (W : World) (b : Below w.heap.size w W) => (h.new b).c5)
  have HAD := Lib.hid (fun (W : World) (q : Below w.heap.size w W) => S11.add_any (h.new q).notes (Nat.le_trans hb q.size) (hT.below q hT.1) ⟨((X.n + X.pn : Nat) : Int), t, k, a, o, b, 0⟩ hk hl)
  have HTN := Lib.hid (fun (W W2 : World) (q : Below w.heap.size w W) (l : S11.Leaves 74 .u8 W W2 X.nb X.nB X.ns (addD X.nD ⟨((X.n + X.pn : Nat) : Int), t, k, a, o, b, 0⟩)) =>
    (show Noted w W2 base X ⟨((X.n + X.pn : Nat) : Int), t, k, a, o, b, 0⟩ from by
      obtain ⟨s', hp, hq⟩ := t_notes (i := 5) (h.new q) rfl l
      exact ⟨s', hp, (q.mono h.size).trans hq⟩))
  have HK5 := Lib.hid (fun (W W2 : World) (q : Below w.heap.size w W) (l : S11.Leaves 74 .u8 W W2 X.nb X.nB X.ns (addD X.nD ⟨((X.n + X.pn : Nat) : Int), t, k, a, o, b, 0⟩)) =>
    (show W2.cell? ⟨X.wB, 5, none⟩ = some (Pw X.nB) from by
      obtain ⟨s', hp, hq⟩ := t_notes (i := 5) (h.new q) rfl l
      exact PW.c5 (X := { X with ns := s', nD := addD X.nD ⟨((X.n + X.pn : Nat) : Int), t, k, a, o, b, 0⟩ }) hp))
  have HB0 : Hid (Below w.heap.size w w.drew) := Lib.hid ((Below.refl _ _).drew)
  have c5 := h.c5
  clear h hT hl hb
  obtain ⟨cB, cM, L, n, kk, aa, was, is, kb, kB, T, most, ks, D, pB, pf, pn, pk, pp, lB, lk, tb, tO, ts, tn, tM, nb, nB, ns, nD, wB, sp⟩ := X
  dsimp only at *
  clear h1 h2 hk
  generalize ((n + pn : Nat) : Int) = tot at *
  go_enter Tryd.func6, Tryd.ntmps6
  go_upto_region 1 with (fail)
  refine wp_region_held_drew (S := fun w' => w'.cell? ⟨wB, 5, none⟩ = some (Pw nB)) (by kernel_rfl) ?_ (fun hHeld => ?_)
  · exact c5
  refine wpAnyH_take (i := 0) (oi := ({ dst := some 14, op := Op.move (Operand.tmp 0), type := 31, pos := "worlds.go:77", after := #[], guard := none } : Oper)) (v := ?v0) rfl (by kernel_rfl) (by kernel_rfl) (by kernel_rfl) (fun _ _ _ h => h) (Or.inl ⟨by rfl, fun w hSw => ?hy0⟩) (by assumption) ?r0
  case hy0 => (try dsimp only at hSw); go_simp; (try with_reducible rfl)
  (try simp only [Act.put, List.setIfInBounds_toArray, List.set_cons_zero, List.set_cons_succ])
  refine wpAnyH_take (i := 1) (oi := ({ dst := some 15, op := Op.nilCheck (Operand.tmp 14), type := 0, pos := "worlds.go:77", after := #[{ on := 0, ground := Ground.data }], guard := none } : Oper)) (v := ?v1) rfl (by kernel_rfl) (by kernel_rfl) (by kernel_rfl) (fun _ _ _ h => h) (Or.inl ⟨by rfl, fun w hSw => ?hy1⟩) (by assumption) ?r1
  case hy1 => (try dsimp only at hSw); go_simp; (try with_reducible rfl)
  (try simp only [Act.put, List.setIfInBounds_toArray, List.set_cons_zero, List.set_cons_succ])
  refine wpAnyH_take (i := 2) (oi := ({ dst := some 16, op := Op.fieldAddr 43 (Operand.tmp 15) 5, type := 0, pos := "worlds.go:77", after := #[{ on := 1, ground := Ground.data }], guard := none } : Oper)) (v := ?v2) rfl (by kernel_rfl) (by kernel_rfl) (by kernel_rfl) (fun _ _ _ h => h) (Or.inl ⟨by rfl, fun w hSw => ?hy2⟩) (by assumption) ?r2
  case hy2 => (try dsimp only at hSw); go_simp; (try with_reducible rfl)
  (try simp only [Act.put, List.setIfInBounds_toArray, List.set_cons_zero, List.set_cons_succ])
  refine wpAnyH_take (i := 3) (oi := ({ dst := some 17, op := Op.load 40 (Operand.tmp 16), type := 40, pos := "worlds.go:77", after := #[{ on := 2, ground := Ground.data }], guard := none } : Oper)) (v := ?v3) rfl (by kernel_rfl) (by kernel_rfl) (by kernel_rfl) (fun _ _ _ h => h) (Or.inl ⟨by rfl, fun w hSw => ?hy3⟩) (by assumption) ?r3
  case hy3 => (try dsimp only at hSw); go_simp; (try with_reducible rfl)
  (try simp only [Act.put, List.setIfInBounds_toArray, List.set_cons_zero, List.set_cons_succ])
  refine wpAnyH_take (i := 4) (oi := ({ dst := some 18, op := Op.move (Operand.tmp 0), type := 31, pos := "worlds.go:77", after := #[], guard := none } : Oper)) (v := ?v4) rfl (by kernel_rfl) (by kernel_rfl) (by kernel_rfl) (fun _ _ _ h => h) (Or.inl ⟨by rfl, fun w hSw => ?hy4⟩) (by assumption) ?r4
  case hy4 => (try dsimp only at hSw); go_simp; (try with_reducible rfl)
  (try simp only [Act.put, List.setIfInBounds_toArray, List.set_cons_zero, List.set_cons_succ])
  refine wpAnyH_take (i := 6) (oi := ({ dst := some 20, op := Op.move (Operand.tmp 1), type := 3, pos := "worlds.go:77", after := #[], guard := none } : Oper)) (v := ?v6) rfl (by kernel_rfl) (by kernel_rfl) (by kernel_rfl) (fun _ _ _ h => h) (Or.inl ⟨by rfl, fun w hSw => ?hy6⟩) (by assumption) ?r6
  case hy6 => (try dsimp only at hSw); go_simp; (try with_reducible rfl)
  (try simp only [Act.put, List.setIfInBounds_toArray, List.set_cons_zero, List.set_cons_succ])
  refine wpAnyH_take (i := 7) (oi := ({ dst := some 21, op := Op.move (Operand.tmp 2), type := 33, pos := "worlds.go:77", after := #[], guard := none } : Oper)) (v := ?v7) rfl (by kernel_rfl) (by kernel_rfl) (by kernel_rfl) (fun _ _ _ h => h) (Or.inl ⟨by rfl, fun w hSw => ?hy7⟩) (by assumption) ?r7
  case hy7 => (try dsimp only at hSw); go_simp; (try with_reducible rfl)
  (try simp only [Act.put, List.setIfInBounds_toArray, List.set_cons_zero, List.set_cons_succ])
  refine wpAnyH_take (i := 8) (oi := ({ dst := some 22, op := Op.move (Operand.tmp 3), type := 23, pos := "worlds.go:77", after := #[], guard := none } : Oper)) (v := ?v8) rfl (by kernel_rfl) (by kernel_rfl) (by kernel_rfl) (fun _ _ _ h => h) (Or.inl ⟨by rfl, fun w hSw => ?hy8⟩) (by assumption) ?r8
  case hy8 => (try dsimp only at hSw); go_simp; (try with_reducible rfl)
  (try simp only [Act.put, List.setIfInBounds_toArray, List.set_cons_zero, List.set_cons_succ])
  refine wpAnyH_take (i := 9) (oi := ({ dst := some 23, op := Op.move (Operand.tmp 4), type := 3, pos := "worlds.go:77", after := #[], guard := none } : Oper)) (v := ?v9) rfl (by kernel_rfl) (by kernel_rfl) (by kernel_rfl) (fun _ _ _ h => h) (Or.inl ⟨by rfl, fun w hSw => ?hy9⟩) (by assumption) ?r9
  case hy9 => (try dsimp only at hSw); go_simp; (try with_reducible rfl)
  (try simp only [Act.put, List.setIfInBounds_toArray, List.set_cons_zero, List.set_cons_succ])
  refine wpAnyH_take (i := 10) (oi := ({ dst := some 24, op := Op.move (Operand.tmp 5), type := 23, pos := "worlds.go:77", after := #[], guard := none } : Oper)) (v := ?v10) rfl (by kernel_rfl) (by kernel_rfl) (by kernel_rfl) (fun _ _ _ h => h) (Or.inl ⟨by rfl, fun w hSw => ?hy10⟩) (by assumption) ?r10
  case hy10 => (try dsimp only at hSw); go_simp; (try with_reducible rfl)
  (try simp only [Act.put, List.setIfInBounds_toArray, List.set_cons_zero, List.set_cons_succ])
  refine wpAnyH_ready (rs := [5]) (by kernel_rfl) (by simp) ?_
  refine AllReadyH.cons (o := ({ dst := some 19, op := Op.call { callee := Callee.value (Operand.func 7), args := #[Operand.tmp 18], argTypes := #[31] }, type := 3, pos := "worlds.go:77", after := #[{ on := 4, ground := Ground.data }], guard := none } : Oper)) rfl (fun Kq hKq => ?_) AllReadyH.nil
  go_simp
  (refine (HST.out _ HB0.out).mono ?_; rintro e w1 ⟨rfl, hb1⟩)
  refine hKq.out _ _ ?_ (fun hHeld => ?_)
  · exact HC5.out _ (HB0.out.trans (hb1.mono HB0.out.size))
  clear hKq Kq
  (try simp only [Act.put, List.setIfInBounds_toArray, List.set_cons_zero, List.set_cons_succ])
  refine wpAnyH_take (i := 11) (oi := ({ dst := some 25, op := Op.build 62 #[(0, Operand.tmp 19), (1, Operand.tmp 20), (2, Operand.tmp 21), (3, Operand.tmp 22), (4, Operand.tmp 23), (5, Operand.tmp 24)], type := 62, pos := "worlds.go:77", after := #[{ on := 5, ground := Ground.data }, { on := 6, ground := Ground.data }, { on := 7, ground := Ground.data }, { on := 8, ground := Ground.data }, { on := 9, ground := Ground.data }, { on := 10, ground := Ground.data }], guard := none } : Oper)) (v := ?v11) rfl (by kernel_rfl) (by kernel_rfl) (by kernel_rfl) (fun _ _ _ h => h) (Or.inl ⟨by rfl, fun w hSw => ?hy11⟩) (by assumption) ?r11
  case hy11 => (try dsimp only at hSw); go_simp; (try with_reducible rfl)
  (try simp only [Act.put, List.setIfInBounds_toArray, List.set_cons_zero, List.set_cons_succ])
  refine wpAnyH_ready (rs := [12]) (by kernel_rfl) (by simp) ?_
  refine AllReadyH.cons (o := ({ dst := some 26, op := Op.call { callee := Callee.value (Operand.func 15), args := #[Operand.tmp 17, Operand.tmp 25], argTypes := #[40, 62] }, type := 53, pos := "worlds.go:77", after := #[{ on := 3, ground := Ground.data }, { on := 11, ground := Ground.data }, { on := 5, ground := Ground.chain }], guard := none } : Oper)) rfl (fun Kq hKq => ?_) AllReadyH.nil
  go_simp
  (refine (HAD.out _ (HB0.out.trans (hb1.mono HB0.out.size))).mono ?_; rintro e w2 ⟨rfl, hl⟩)
  refine hKq.out _ _ ?_ (fun hHeld => ?_)
  · exact HK5.out _ _ (HB0.out.trans (hb1.mono HB0.out.size)) hl
  clear hKq Kq
  (try simp only [Act.put, List.setIfInBounds_toArray, List.set_cons_zero, List.set_cons_succ])
  refine wpAnyH_done (by kernel_rfl) ?_ _

  go_wp2_with fail
  go_end0
  exact ⟨rfl, HTN.out _ _ (HB0.out.trans (hb1.mono HB0.out.size)) hl⟩
theorem note_any {w : World} {base : Nat} {X : Wm} (h : PW w base X) (h1 : X.n ≤ 1000000000) (h2 : X.pn ≤ 1000000000) (hl : X.nD.length ≤ 100000) (hT : Tab w) (t a : Int) (k : Nat) (hk : k < 256) :
    Calls Tryd.prog 5 #[Pw X.wB, .int .i64 t, .int .u8 (k : Int), .int .u32 a] w fun e w' => e = .returned (.tuple #[]) ∧ Noted w w' base X ⟨((X.n + X.pn : Nat) : Int), t, k, a, -1, 0, 0⟩ := by
  have HN := Lib.hid (noteOf_any h h1 h2 hl hT t a (-1) 0 k hk)
  clear h h1 h2 hl hT hk
  go_enter Tryd.func5, Tryd.ntmps5
  go_wp2_with (go_at_call 6; refine HN.out.mono ?_; rintro e w1 ⟨rfl, hn⟩)
  go_end0
  exact ⟨rfl, hn⟩
end Go.Proofs.YtbibinffdcjgfaaDoor.S12
namespace Go.Proofs.YtbibinffdcjgfaaDoor.S5
open Go.Proofs.YtbibinffdcjgfaaDoor
open Go.RowKit

/-- The way to the tail, so many steps at most: the links then, and where it ends; none: there was no next one. -/
def go : Nat → Lk → Nat → Lk × Option Nat
  | 0, S, a => (S, some a)
  | n + 1, S, a => if S (a * 3 + 2) = 0 then (if S (a * 3) = 0 then (S, none) else go n (upd S ((S (a * 3) - 1) * 3 + 1) (a + 1)) (S (a * 3) - 1)) else (S, some a)
/-- What Seek leaves, and one more than what it tells. -/
def closeS (t : Nat) : Lk × Option Nat → Lk × Nat
  | (S, none) => (S, 0)
  | (S, some a) => (upd S (t * 3 + 2) (S (a * 3 + 2)), S (a * 3 + 2))
def seekS (S : Lk) (t : Nat) : Lk × Nat := closeS t (go 64 S t)
/-- What a seek ends as. -/
def Sought (w : World) (B : Nat) (R : Lk × Nat) (e : Ending) (w' : World) : Prop := e = .returned (.int .i64 ((R.2 : Int) - 1)) ∧ Has w' B R.1 ∧ Turns (fun k => k = B) w w'
theorem go_stop {S : Lk} {a : Nat} (n : Nat) (h : S (a * 3 + 2) ≠ 0 ∨ n = 0) : go n S a = (S, some a) := by
  cases n with
  | zero => rfl
  | succ n => rw [go, if_neg (by omega)]
theorem go_none {S : Lk} {a : Nat} (n : Nat) (h : S (a * 3 + 2) = 0) (h0 : S (a * 3) = 0) : go (n + 1) S a = (S, none) := by
  rw [go, if_pos h, if_pos h0]
theorem go_on {S : Lk} {a x : Nat} (n : Nat) (h : S (a * 3 + 2) = 0) (h0 : S (a * 3) = x + 1) : go (n + 1) S a = go n (upd S (x * 3 + 1) (a + 1)) x := by
  rw [go, if_pos h, if_neg (by omega), h0, Nat.add_sub_cancel]
def Jump (w : World) (B : Nat) (S : Lk) (t : Nat) (a' : Act) (w' : World) : Prop :=
  ∃ (n g at_ : Nat) (S' : Lk) (u7 u12 u13 u14 u15 u16 u17 u18 u19 u20 u21 u22 u23 u24 u25 u26 u27 u28 u29 u30 u31 u32 u33 u34 u35 u36 u37 u38 u39 u40 u41 u42 u43 u44 u45 : Value), a' = { tmps := #[Pt B, .int .i64 (t : Int), undef, undef, .int .i64 0, .int .i64 (at_ : Int), .int .i64 (g : Int), u7, Pt B, .int .i64 (t : Int), .bool true, .bool false, u12, u13, u14, u15, u16, u17, u18, u19, u20, u21, u22, u23, u24, u25, u26, u27, u28, u29, u30, u31, u32, u33, u34, u35, u36, u37, u38, u39, u40, u41, u42, u43, u44, u45, undef, undef, undef, undef, undef, undef, undef, undef, undef, undef, undef, undef, undef, undef, undef, undef, undef, undef, undef, undef, undef], defers := [] } ∧ g + n = 64 ∧ at_ < 64 ∧ Has w' B S' ∧ go n S' at_ = go 64 S t ∧ Turns (fun k => k = B) w w'
theorem Has.read {w : World} {B : Nat} {S : Lk} (h : Has w B S) {i v : Nat} (hi : i < 192) (e : S i = v) : w.cell? ⟨B, i, none⟩ = some (.int .i64 (v : Nat)) := by rw [← e]; exact h.cell i hi
theorem Sought.mk {w0 w : World} {B t a x : Nat} {S : Lk} {e : Ending} {w' : World} {P : Lk × Option Nat} (ha : a < 64) (ht : t < 64) (h : Has w B S) (ht0 : Turns (fun k => k = B) w0 w) (hg : P = (S, some a)) (hx : S (a * 3 + 2) = x) (he : e = .returned (.int .i64 ((x : Int) - 1))) (hw : w' = w.setCell ⟨B, t * 3 + 2, none⟩ (.int .i64 (x : Nat)) ∨ w' = (w.setCell ⟨B, t * 3 + 2, none⟩ (.int .i64 (x : Nat))).drew) :
    Sought w0 B (closeS t P) e w' := by
  subst hg
  subst hx
  have h1 := h.set (i := t * 3 + 2) (by omega) (h.le (a * 3 + 2))
  have t1 := ht0.setCell ⟨B, t * 3 + 2, none⟩ (.int .i64 (S (a * 3 + 2) : Nat)) rfl
  rcases hw with rfl | rfl
  · exact ⟨he, h1, t1⟩
  · exact ⟨he, h1.drew, t1.drew⟩
theorem Sought.none {w0 w : World} {B t : Nat} {S : Lk} {P : Lk × Option Nat} (h : Has w B S) (ht0 : Turns (fun k => k = B) w0 w) (hg : P = (S, Option.none)) : Sought w0 B (closeS t P) (.returned (.int .i64 (-1))) w := by
  subst hg
  exact ⟨rfl, h, ht0⟩
end Go.Proofs.YtbibinffdcjgfaaDoor.S5
namespace Go.Proofs.YtbibinffdcjgfaaDoor.S5
open Go.Proofs.YtbibinffdcjgfaaDoor
open Go.RowKit

def seekO (S : Lk) : Option Nat → Lk × Nat
  | some t => seekS S t
  | none => (S, 0)
def cutO (S : Lk) : Option Nat → Option Nat → Lk × Nat
  | some h, some t => (if S (t * 3 + 1) = 0 then S else upd S (h * 3 + 2) (S (t * 3 + 1)), S (t * 3 + 1))
  | _, _ => (S, 0)
theorem cut_zero {S : Lk} {t u : Nat} (h : S (u * 3 + 1) = 0) : cutO S (some t) (some u) = (S, 0) := by rw [cutO, if_pos h, h]
theorem cut_pos {S : Lk} {t u : Nat} (h : S (u * 3 + 1) ≠ 0) : cutO S (some t) (some u) = (upd S (t * 3 + 2) (S (u * 3 + 1)), S (u * 3 + 1)) := by rw [cutO, if_neg h]
end Go.Proofs.YtbibinffdcjgfaaDoor.S5
namespace Go.Proofs.YtbibinffdcjgfaaDoor.S5
open Go.Proofs.YtbibinffdcjgfaaDoor
open Go.RowKit

theorem Has.same {w : World} {B : Nat} {S T : Lk} (h : Has w B S) (e : ∀ i, S i = T i) : Has w B T := by
  have : S = T := funext e
  rw [← this]; exact h
def lnk3 (S : Lk) (t : Nat) : Value := .tuple #[.int .i64 ((S (t * 3) : Int) - 1), .int .i64 ((S (t * 3 + 1) : Int) - 1), .int .i64 ((S (t * 3 + 2) : Int) - 1)]
def nolnk3 : Value := .tuple #[.int .i64 (-1), .int .i64 (-1), .int .i64 (-1)]
theorem below0 (w : World) : Below w.heap.size w w.drew := ⟨rfl, rfl, rfl, Nat.le_refl _, fun _ _ => rfl⟩
theorem put3_put3 (S : Lk) (t a b c x y z : Nat) (i : Nat) : put3 (put3 S t a b c) t x y z i = put3 S t x y z i := by
  unfold put3 upd
  by_cases e2 : i = t * 3 + 2
  · simp only [if_pos e2]
  · by_cases e1 : i = t * 3 + 1
    · simp only [if_neg e2, if_pos e1]
    · by_cases e0 : i = t * 3
      · simp only [if_neg e2, if_neg e1, if_pos e0]
      · simp only [if_neg e2, if_neg e1, if_neg e0]
end Go.Proofs.YtbibinffdcjgfaaDoor.S5
namespace Go.Proofs.YtbibinffdcjgfaaDoor.S5
open Go.Proofs.YtbibinffdcjgfaaDoor
open Go.RowKit

end Go.Proofs.YtbibinffdcjgfaaDoor.S5
namespace Go.Proofs.YtbibinffdcjgfaaDoor.S5
open Go.Proofs.YtbibinffdcjgfaaDoor
open Go.RowKit

def prevO (S : Lk) : Option Nat → Nat
  | some t => S (t * 3 + 1)
  | none => 0
theorem cutO_zero {S : Lk} {a b : Option Nat} (h : prevO S b = 0 ∨ a = none) : cutO S a b = (S, 0) := by
  cases a with
  | none => cases b <;> rfl
  | some t =>
    cases b with
    | none => rfl
    | some u => exact cut_zero (h.resolve_right (fun e => by cases e))
theorem turns_new {w w' : World} (P : Nat → Prop) (b : Below w.heap.size w w') : Turns P w w' := Turns.of_below b
end Go.Proofs.YtbibinffdcjgfaaDoor.S5
namespace Go.Proofs.YtbibinffdcjgfaaDoor.S5
open Go.Proofs.YtbibinffdcjgfaaDoor
open Go.RowKit
def Z192 : Array Value := Array.replicate 192 (.int .i64 0)
theorem zero46 (w : World) : (zeroValue 127).run Tryd.prog w = .ok (.agg Z192) w := by kernel_rfl
/-- No links. -/
def S0 : Lk := fun _ => 0
theorem cell_row {w : World} {B : Nat} {cs : Array Value} {T : TypeId} (h : w.heap[B]? = some (.cells cs T (0, 0))) (o : Nat) : w.cell? ⟨B, o, none⟩ = cs[o]? := by
  simp [World.cell?, h]
theorem froz_row {w : World} {B : Nat} {cs : Array Value} {T : TypeId} (h : w.heap[B]? = some (.cells cs T (0, 0))) (o : Nat) : w.frozen? ⟨B, o, none⟩ = false := by
  simp [World.frozen?, h]
theorem z192 {i : Nat} (hi : i < 192) : Z192[i]? = some (.int .i64 0) := by
  unfold Z192
  rw [Array.getElem?_replicate, if_pos hi]
theorem has_row {w : World} {B : Nat} {T : TypeId} (hb : w.heap[B]? = some (.cells Z192 T (0, 0))) : Has w B S0 :=
  ⟨(Array.getElem?_eq_some_iff.1 hb).1, fun i hi => (cell_row hb i).trans (z192 hi), fun i _ => froz_row hb i, fun _ => Nat.zero_le _⟩
theorem has_zero (w : World) (T : TypeId) : Has (w.alloc (.cells Z192 T)) w.heap.size S0 := has_row (heap_alloc_new w _)
theorem new_any (w : World) : Calls Tryd.prog 32 #[] w fun e w' => e = .returned (Pt w.heap.size) ∧ Has w' w.heap.size S0 ∧ Below w.heap.size w w' := by
  have z := zero46
  go_enter Tryd.func32, Tryd.ntmps32
  go_wp2_with fail
  go_ret
  exact ⟨rfl, has_zero w 127, below1 w _⟩
section
variable {w : World} {B : Nat} {S S' : Lk} {x y v : Int} {o p : Option Nat} {r : Nat}
end
def E1 : Lk := pushS S0 (some 4) none
def E2 : Lk := pushS E1 (some 2) (some 4)
def E3 : Lk := pushS E2 (some 7) (some 2)
def E4 : Lk := (seekO E3 (some 7)).1
def E5 : Lk := (cutO E4 (some 7) (some 4)).1
def E6 : Lk := (seekO E5 (some 7)).1
def E7 : Lk := (cutO E6 (some 7) (some 2)).1
def E8 : Lk := (cutO E7 (some 7) (some 7)).1
theorem r4 : (seekO E3 (some 7)).2 = 5 := by kernel_rfl
theorem r5 : (cutO E4 (some 7) (some 4)).2 = 3 := by kernel_rfl
theorem r6 : (seekO E5 (some 7)).2 = 3 := by kernel_rfl
theorem r7 : (cutO E6 (some 7) (some 2)).2 = 8 := by kernel_rfl
theorem r8 : (cutO E7 (some 7) (some 7)).2 = 0 := by kernel_rfl
theorem l4 : lnk E4 4 = .agg #[.int .i64 (-1), .int .i64 2, .int .i64 4] := by kernel_rfl
theorem nm (t : Nat) (h : t < 64) : Num (t : Int) (some t) := ⟨rfl, h⟩
theorem nm1 : Num (-1) none := by unfold Num notT; omega
end Go.Proofs.YtbibinffdcjgfaaDoor.S5
namespace Go.Proofs.YtbibinffdcjgfaaDoor.S12
open Go.Proofs.YtbibinffdcjgfaaDoor Go.Proofs.YtbibinffdcjgfaaDoor.S11
open Go.RowKit

/-- May a config be? -/
def okC (spin : Int) (n : Nat) : Bool := decide (0 ≤ spin) && (decide (spin ≤ 16) && decide ((n : Int) ≤ 65536))
theorem mayBe_any (spin most : Int) (n c : Nat) (A : Option Addr) (w : World) : Calls Tryd.prog 28 #[.agg #[.int .i64 spin, .int .u64 most, .slice A n c]] w fun e w' => e = .returned (.bool (okC spin n)) ∧ Below w.heap.size w w' := by
  have HB : Hid (Below w.heap.size w (w.alloc (.cells #[.int .i64 spin, .int .u64 most, .slice A n c] 58))) := Lib.hid ((Below.refl _ _).alloc (Nat.le_refl _) _)
  unfold okC
  cases h1 : decide (0 ≤ spin)
  · go_enter Tryd.func28, Tryd.ntmps28
    go_wp2
    go_ret
    exact ⟨rfl, HB.out⟩
  · cases h2 : decide (spin ≤ 16)
    · go_enter Tryd.func28, Tryd.ntmps28
      go_wp2
      go_ret
      exact ⟨rfl, HB.out⟩
    · cases h3 : decide ((n : Int) ≤ 65536)
      · go_enter Tryd.func28, Tryd.ntmps28
        go_wp2
        go_ret
        exact ⟨rfl, HB.out⟩
      · go_enter Tryd.func28, Tryd.ntmps28
        go_wp2
        go_ret
        exact ⟨rfl, HB.out⟩
theorem new_no (spin most : Int) (n c : Nat) (A : Option Addr) (h : okC spin n = false) (w : World) : Calls Tryd.prog 14 #[.agg #[.int .i64 spin, .int .u64 most, .slice A n c]] w fun e w' => e = .returned (.tuple #[.pointer none, .int .i64 1]) ∧ Below w.heap.size w w' := by
  have hb : Below w.heap.size w (w.alloc (.cells #[.int .i64 spin, .int .u64 most, .slice A n c] 58)) := (Below.refl _ _).alloc (Nat.le_refl _) _
  have HB := Lib.hid hb
  have HM := Lib.hid (mayBe_any spin most n c A)
  rw [h] at HM
  have hnew := heap_alloc_new w (.cells #[.int .i64 spin, .int .u64 most, .slice A n c] 58)
  have c0 := cell_row hnew 0; have c1 := cell_row hnew 1; have c2 := cell_row hnew 2
  simp only [List.getElem?_toArray, List.getElem?_cons_zero, List.getElem?_cons_succ] at c0 c1 c2
  clear hb hnew h
  go_enter Tryd.func14, Tryd.ntmps14
  go_upto_region 1 with (fail)
  generalize w.alloc (.cells #[.int .i64 spin, .int .u64 most, .slice A n c] 58) = wb at *
  go_wp2_with (go_at_call 28; refine (HM.out _).mono ?_; rintro e w1 ⟨rfl, hb1⟩)
  go_ret2
  exact ⟨rfl, HB.out.trans (hb1.mono HB.out.size)⟩
/-- A world as at first. -/
structure At0 (X : Wm) (spin : Int) (most : Nat) (D : List Nat) : Prop where
  L : X.L = L02
  n : X.n = 0
  k : X.k = 0
  a : X.a = 0
  was : X.was = 0
  is : X.is = 0
  T : X.T = 0
  most : X.most = most
  D : X.D = D
  pf : X.pf = fun _ => S4.pk0
  pn : X.pn = 0
  pk : X.pk = 0
  pp : X.pp = 0
  lk : X.lk = S5.S0
  tn : X.tn = 1
  tM : X.tM = S10.M0 0
  nD : X.nD = []
  sp : X.sp = spin
def NewW (w w' : World) (spin : Int) (most : Nat) (D : List Nat) (e : Ending) : Prop := ∃ X, e = .returned (.tuple #[Pw X.wB, .int .i64 0]) ∧ PW w' w.heap.size X ∧ At0 X spin most D ∧ Below w.heap.size w w'
set_option maxRecDepth 100000 in
set_option maxHeartbeats 4000000 in
theorem new_yes {w : World} (spin : Int) (most n c : Nat) (A : Option Addr) {D : List Nat} (h : okC spin n = true)
    (hck : ∀ W, Below w.heap.size w W → Calls Tryd.prog 30 #[.slice A n c, .int .u64 (most : Int)] W (S3.Made W 0 most D)) :
    Calls Tryd.prog 14 #[.agg #[.int .i64 spin, .int .u64 (most : Int), .slice A n c]] w fun e w' => NewW w w' spin most D e := by
  have hb : Below w.heap.size w (w.alloc (.cells #[.int .i64 spin, .int .u64 (most : Int), .slice A n c] 58)) := (Below.refl _ _).alloc (Nat.le_refl _) _
  have HB := Lib.hid hb
  have HM := Lib.hid (mayBe_any spin (most : Int) n c A)
  rw [h] at HM
  have HCK := Lib.hid hck
  have hnew := heap_alloc_new w (.cells #[.int .i64 spin, .int .u64 (most : Int), .slice A n c] 58)
  have c0 := cell_row hnew 0; have c1 := cell_row hnew 1; have c2 := cell_row hnew 2
  obtain ⟨B0, hB0⟩ : ∃ B0, B0 = w.heap.size := ⟨_, rfl⟩
  rw [← hB0] at c0 c1 c2
  simp only [List.getElem?_toArray, List.getElem?_cons_zero, List.getElem?_cons_succ] at c0 c1 c2
  have HB0 := Lib.hid hB0
  clear hb hnew h hck hB0
  go_enter Tryd.func14, Tryd.ntmps14
  go_upto_region 1 with (fail)
  rw [← HB0.out]
  generalize w.alloc (.cells #[.int .i64 spin, .int .u64 (most : Int), .slice A n c] 58) = wa at *
  go_upto_region 3 with (go_at_call 28; refine (HM.out _).mono ?_; rintro e wb ⟨rfl, hb1⟩)
  have HBW : Hid (Below w.heap.size w wb) := Lib.hid (HB.out.trans (hb1.mono HB.out.size))
  have HC : Hid (∀ W, Below wb.heap.size wb W → W.cell? ⟨B0, 0, none⟩ = some (.int .i64 spin) ∧ W.cell? ⟨B0, 1, none⟩ = some (.int .u64 (most : Int)) ∧ W.cell? ⟨B0, 2, none⟩ = some (.slice A n c)) := Lib.hid (fun W q => ⟨bcell (hb1.trans (q.mono hb1.size)) c0, bcell (hb1.trans (q.mono hb1.size)) c1, bcell (hb1.trans (q.mono hb1.size)) c2⟩)
  clear hb1 c0 c1 c2
  refine wp_region_held_drew (S := fun w' => w'.cell? ⟨B0, 0, none⟩ = some (.int .i64 spin) ∧ w'.cell? ⟨B0, 1, none⟩ = some (.int .u64 (most : Int)) ∧ w'.cell? ⟨B0, 2, none⟩ = some (.slice A n c)) (by kernel_rfl) ?_ (fun hHeld => ?_)
  · exact HC.out _ ((Below.refl _ _).drew)
  refine wpAnyH_take (i := 0) (oi := ({ dst := some 8, op := Op.build 80 #[(0, Operand.const (Value.int IntKind.u32 0)), (1, Operand.const (Value.int IntKind.u64 2))], type := 80, pos := "worlds.go:42", after := #[], guard := none } : Oper)) (v := ?vax1) rfl (by kernel_rfl) (by kernel_rfl) (by kernel_rfl) (fun _ _ _ h => h) (Or.inl ⟨by rfl, fun w hSw => ?hyax1⟩) (by assumption) ?rax1
  case hyax1 => (try dsimp only at hSw); go_simp; (try with_reducible rfl)
  (try simp only [Act.put, List.setIfInBounds_toArray, List.set_cons_zero, List.set_cons_succ])
  refine wpAnyH_take (i := 3) (oi := ({ dst := some 11, op := Op.fieldAddr 58 (Operand.tmp 1) 2, type := 0, pos := "worlds.go:42", after := #[], guard := none } : Oper)) (v := ?vax2) rfl (by kernel_rfl) (by kernel_rfl) (by kernel_rfl) (fun _ _ _ h => h) (Or.inl ⟨by rfl, fun w hSw => ?hyax2⟩) (by assumption) ?rax2
  case hyax2 => (try dsimp only at hSw); go_simp; (try with_reducible rfl)
  (try simp only [Act.put, List.setIfInBounds_toArray, List.set_cons_zero, List.set_cons_succ])
  refine wpAnyH_take (i := 4) (oi := ({ dst := some 12, op := Op.load 56 (Operand.tmp 11), type := 56, pos := "worlds.go:42", after := #[{ on := 3, ground := Ground.data }], guard := none } : Oper)) (v := ?vax3) rfl (by kernel_rfl) (by kernel_rfl) (by kernel_rfl) (fun _ _ _ h => h) (Or.inl ⟨by rfl, fun w hSw => ?hyax3⟩) (by assumption) ?rax3
  case hyax3 => (try dsimp only at hSw); go_simp; (try with_reducible rfl)
  (try simp only [Act.put, List.setIfInBounds_toArray, List.set_cons_zero, List.set_cons_succ])
  refine wpAnyH_take (i := 5) (oi := ({ dst := some 13, op := Op.fieldAddr 58 (Operand.tmp 1) 1, type := 0, pos := "worlds.go:42", after := #[], guard := none } : Oper)) (v := ?vax4) rfl (by kernel_rfl) (by kernel_rfl) (by kernel_rfl) (fun _ _ _ h => h) (Or.inl ⟨by rfl, fun w hSw => ?hyax4⟩) (by assumption) ?rax4
  case hyax4 => (try dsimp only at hSw); go_simp; (try with_reducible rfl)
  (try simp only [Act.put, List.setIfInBounds_toArray, List.set_cons_zero, List.set_cons_succ])
  refine wpAnyH_take (i := 6) (oi := ({ dst := some 14, op := Op.load 24 (Operand.tmp 13), type := 24, pos := "worlds.go:42", after := #[{ on := 5, ground := Ground.data }], guard := none } : Oper)) (v := ?vax5) rfl (by kernel_rfl) (by kernel_rfl) (by kernel_rfl) (fun _ _ _ h => h) (Or.inl ⟨by rfl, fun w hSw => ?hyax5⟩) (by assumption) ?rax5
  case hyax5 => (try dsimp only at hSw); go_simp; (try with_reducible rfl)
  (try simp only [Act.put, List.setIfInBounds_toArray, List.set_cons_zero, List.set_cons_succ])
  refine wpAnyH_take (i := 12) (oi := ({ dst := some 20, op := Op.fieldAddr 58 (Operand.tmp 1) 0, type := 0, pos := "worlds.go:42", after := #[], guard := none } : Oper)) (v := ?vax6) rfl (by kernel_rfl) (by kernel_rfl) (by kernel_rfl) (fun _ _ _ h => h) (Or.inl ⟨by rfl, fun w hSw => ?hyax6⟩) (by assumption) ?rax6
  case hyax6 => (try dsimp only at hSw); go_simp; (try with_reducible rfl)
  (try simp only [Act.put, List.setIfInBounds_toArray, List.set_cons_zero, List.set_cons_succ])
  refine wpAnyH_take (i := 13) (oi := ({ dst := some 21, op := Op.load 3 (Operand.tmp 20), type := 3, pos := "worlds.go:42", after := #[{ on := 12, ground := Ground.data }], guard := none } : Oper)) (v := ?vax7) rfl (by kernel_rfl) (by kernel_rfl) (by kernel_rfl) (fun _ _ _ h => h) (Or.inl ⟨by rfl, fun w hSw => ?hyax7⟩) (by assumption) ?rax7
  case hyax7 => (try dsimp only at hSw); go_simp; (try with_reducible rfl)
  (try simp only [Act.put, List.setIfInBounds_toArray, List.set_cons_zero, List.set_cons_succ])
  refine wpAnyH_ready (rs := [1]) (by kernel_rfl) (by simp) ?_
  refine AllReadyH.cons (o := ({ dst := some 9, op := Op.buildSlice 118 1 #[(0, Operand.tmp 8)], type := 118, pos := "worlds.go:42", after := #[{ on := 0, ground := Ground.data }], guard := none } : Oper)) rfl (fun Kq hKq => ?_) AllReadyH.nil
  go_simp
  have R1 : Hid (Below w.heap.size w (wb.alloc (.cells #[.int .u32 0, .int .u64 2] 80)).drew) := Lib.hid (HBW.out.alloc HBW.out.size _).drew
  have C1 : Hid ((wb.alloc (.cells #[.int .u32 0, .int .u64 2] 80)).drew.heap[wb.heap.size]? = some (.cells #[.int .u32 0, .int .u64 2] 80)) := Lib.hid (heap_alloc_new wb _)
  have S1 : Hid (∀ W, Below (wb.alloc (.cells #[.int .u32 0, .int .u64 2] 80)).drew.heap.size (wb.alloc (.cells #[.int .u32 0, .int .u64 2] 80)).drew W → W.cell? ⟨B0, 0, none⟩ = some (.int .i64 spin) ∧ W.cell? ⟨B0, 1, none⟩ = some (.int .u64 (most : Int)) ∧ W.cell? ⟨B0, 2, none⟩ = some (.slice A n c)) := Lib.hid (fun W q => HC.out W ((((Below.refl _ wb).alloc (Nat.le_refl _) _).drew).trans (q.mono (by simp))))
  have hnb := C1.out
  have HSZ : Hid (wb.heap.size < (wb.alloc (.cells #[.int .u32 0, .int .u64 2] 80)).drew.heap.size) := Lib.hid (Array.getElem?_eq_some_iff.1 hnb).1
  clear hnb HC
  generalize (wb.alloc (.cells #[.int .u32 0, .int .u64 2] 80)).drew = w1 at *
  generalize wb.heap.size = bs at *
  have HIN : Hid (S2.WIn w1 w1.heap.size (some ⟨bs, 0, none⟩) 1 (fun _ => 0) (fun _ => 2)) := Lib.hid (fun _ => ⟨bs, 0, rfl, HSZ.out, fun i hi => (show ∀ i, i = 0 → (w1.cell? ⟨bs, 0 + i * 2, none⟩ = some (.int .u32 (((fun _ => 0) i : Nat) : Int)) ∧ w1.cell? ⟨bs, 0 + i * 2 + 1, none⟩ = some (.int .u64 (((fun _ => 2) i : Nat) : Int))) from fun i e => by rw [e]; exact ⟨cell_row C1.out 0, cell_row C1.out 1⟩) i (by omega)⟩)
  have PP0 : Hid (Parts w1 w.heap.size []) := Lib.hid ((parts_nil w).new R1.out)
  refine hKq.out _ _ ?_ (fun hHeld => ?_)
  · exact S1.out _ (Below.refl _ _)
  clear hKq Kq
  (try simp only [Act.put, List.setIfInBounds_toArray, List.set_cons_zero, List.set_cons_succ])
  refine wpAnyH_ready (rs := [2]) (by kernel_rfl) (by simp) ?_
  refine AllReadyH.cons (o := ({ dst := some 10, op := Op.call { callee := Callee.value (Operand.func 29), args := #[Operand.tmp 9], argTypes := #[118] }, type := 35, pos := "worlds.go:44", after := #[{ on := 1, ground := Ground.data }], guard := none } : Oper)) rfl (fun Kq hKq => ?_) AllReadyH.nil
  go_simp
  (refine (S2.new_any (some ⟨bs, 0, none⟩) 1 1 (fun _ => 0) (fun _ => 2) (by omega) (fun i _ => ⟨by simp, by simp⟩) w1 HIN.out).mono ?_; rintro e w2 ⟨rfl, hst, hb⟩)
  obtain ⟨M, hcm, hmm⟩ := hst.own
  have PP1 : Hid (Parts w2 w.heap.size [cellsP w1.heap.size M L02 0 0 0 0 0]) := Lib.hid (PP0.out.push (cellsP w1.heap.size M L02 0 0 0 0 0) (hb) hcm (fun k e => Or.elim (show k = w1.heap.size ∨ M = some k from e) (fun e => Nat.le_of_eq e.symm) (fun e => hmm k e)))
  have R2 : Hid (Below w.heap.size w w2) := Lib.hid (R1.out.trans (hb.mono R1.out.size))
  have B2 : Hid (Below w1.heap.size w1 w2) := Lib.hid (hb)
  clear hb hst hcm hmm
  refine hKq.out _ _ ?_ (fun hHeld => ?_)
  · exact S1.out _ B2.out
  clear hKq Kq
  (try simp only [Act.put, List.setIfInBounds_toArray, List.set_cons_zero, List.set_cons_succ])
  refine wpAnyH_ready (rs := [7]) (by kernel_rfl) (by simp) ?_
  refine AllReadyH.cons (o := ({ dst := some 15, op := Op.call { callee := Callee.value (Operand.func 30), args := #[Operand.tmp 12, Operand.tmp 14], argTypes := #[56, 24] }, type := 36, pos := "worlds.go:45", after := #[{ on := 4, ground := Ground.data }, { on := 6, ground := Ground.data }, { on := 2, ground := Ground.chain }], guard := none } : Oper)) rfl (fun Kq hKq => ?_) AllReadyH.nil
  go_simp
  (refine (HCK.out w2 R2.out).mono ?_; rintro e w3 ⟨kB, ks, rfl, hkl, hcl, hb⟩)
  have PP2 : Hid (Parts w3 w.heap.size [cellsP w1.heap.size M L02 0 0 0 0 0, clockP w2.heap.size kB 0 most ks D]) := Lib.hid (PP1.out.push (clockP w2.heap.size kB 0 most ks D) (hb) hcl (fun k e => Or.elim (show k = kB ∨ ks.ownBlock = some k from e) (fun e => by rw [e]; exact hkl) (fun e => (hcl.own.lt k e).1)))
  have R3 : Hid (Below w.heap.size w w3) := Lib.hid (R2.out.trans (hb.mono R2.out.size))
  have B3 : Hid (Below w1.heap.size w1 w3) := Lib.hid (B2.out.trans (hb.mono B2.out.size))
  clear hb hkl hcl
  refine hKq.out _ _ ?_ (fun hHeld => ?_)
  · exact S1.out _ B3.out
  clear hKq Kq
  (try simp only [Act.put, List.setIfInBounds_toArray, List.set_cons_zero, List.set_cons_succ])
  refine wpAnyH_ready (rs := [8]) (by kernel_rfl) (by simp) ?_
  refine AllReadyH.cons (o := ({ dst := some 16, op := Op.call { callee := Callee.value (Operand.func 31), args := #[], argTypes := #[] }, type := 37, pos := "worlds.go:46", after := #[{ on := 7, ground := Ground.chain }], guard := none } : Oper)) rfl (fun Kq hKq => ?_) AllReadyH.nil
  go_simp
  (refine (S4.pnew_any w3).mono ?_; rintro e w4 ⟨rfl, hpk, hb⟩)
  have PP3 : Hid (Parts w4 w.heap.size [cellsP w1.heap.size M L02 0 0 0 0 0, clockP w2.heap.size kB 0 most ks D, permitsP w3.heap.size (fun _ => S4.pk0) ((0 : Nat) : Int) 0 0]) := Lib.hid (PP2.out.push (permitsP w3.heap.size (fun _ => S4.pk0) ((0 : Nat) : Int) 0 0) (hb) hpk (fun k e => Nat.le_of_eq (show k = w3.heap.size from e).symm))
  have R4 : Hid (Below w.heap.size w w4) := Lib.hid (R3.out.trans (hb.mono R3.out.size))
  have B4 : Hid (Below w1.heap.size w1 w4) := Lib.hid (B3.out.trans (hb.mono B3.out.size))
  clear hb hpk
  refine hKq.out _ _ ?_ (fun hHeld => ?_)
  · exact S1.out _ B4.out
  clear hKq Kq
  (try simp only [Act.put, List.setIfInBounds_toArray, List.set_cons_zero, List.set_cons_succ])
  refine wpAnyH_ready (rs := [9]) (by kernel_rfl) (by simp) ?_
  refine AllReadyH.cons (o := ({ dst := some 17, op := Op.call { callee := Callee.value (Operand.func 32), args := #[], argTypes := #[] }, type := 38, pos := "worlds.go:47", after := #[{ on := 8, ground := Ground.chain }], guard := none } : Oper)) rfl (fun Kq hKq => ?_) AllReadyH.nil
  go_simp
  (refine (S5.new_any w4).mono ?_; rintro e w5 ⟨rfl, hlk, hb⟩)
  have PP4 : Hid (Parts w5 w.heap.size [cellsP w1.heap.size M L02 0 0 0 0 0, clockP w2.heap.size kB 0 most ks D, permitsP w3.heap.size (fun _ => S4.pk0) ((0 : Nat) : Int) 0 0, linksP w4.heap.size S5.S0]) := Lib.hid (PP3.out.push (linksP w4.heap.size S5.S0) (hb) hlk (fun k e => Nat.le_of_eq (show k = w4.heap.size from e).symm))
  have R5 : Hid (Below w.heap.size w w5) := Lib.hid (R4.out.trans (hb.mono R4.out.size))
  have B5 : Hid (Below w1.heap.size w1 w5) := Lib.hid (B4.out.trans (hb.mono B4.out.size))
  clear hb hlk
  refine hKq.out _ _ ?_ (fun hHeld => ?_)
  · exact S1.out _ B5.out
  clear hKq Kq
  (try simp only [Act.put, List.setIfInBounds_toArray, List.set_cons_zero, List.set_cons_succ])
  refine wpAnyH_ready (rs := [10]) (by kernel_rfl) (by simp) ?_
  refine AllReadyH.cons (o := ({ dst := some 18, op := Op.call { callee := Callee.value (Operand.func 33), args := #[Operand.const (Value.int IntKind.u64 0)], argTypes := #[24] }, type := 39, pos := "worlds.go:48", after := #[{ on := 9, ground := Ground.chain }], guard := none } : Oper)) rfl (fun Kq hKq => ?_) AllReadyH.nil
  go_simp
  (refine (S10.new_any 0 w5).mono ?_; rintro e w6 ⟨ts, tO, rfl, hts, hb⟩)
  obtain ⟨tB, hsx⟩ : ∃ tB, ts = Pw tB := by
    obtain ⟨sb, _, _, _, hf⟩ := hts
    exact ⟨sb, hf.hs⟩
  subst hsx
  have PP5 : Hid (Parts w6 w.heap.size [cellsP w1.heap.size M L02 0 0 0 0 0, clockP w2.heap.size kB 0 most ks D, permitsP w3.heap.size (fun _ => S4.pk0) ((0 : Nat) : Int) 0 0, linksP w4.heap.size S5.S0, tablesP w5.heap.size tO (Pw tB) 1 (S10.M0 0)]) := Lib.hid (PP4.out.push (tablesP w5.heap.size tO (Pw tB) 1 (S10.M0 0)) (hb) hts (fun k e => (hts.fp e).1))
  have R6 : Hid (Below w.heap.size w w6) := Lib.hid (R5.out.trans (hb.mono R5.out.size))
  have B6 : Hid (Below w1.heap.size w1 w6) := Lib.hid (B5.out.trans (hb.mono B5.out.size))
  clear hb hts
  refine hKq.out _ _ ?_ (fun hHeld => ?_)
  · exact S1.out _ B6.out
  clear hKq Kq
  (try simp only [Act.put, List.setIfInBounds_toArray, List.set_cons_zero, List.set_cons_succ])
  refine wpAnyH_ready (rs := [11]) (by kernel_rfl) (by simp) ?_
  refine AllReadyH.cons (o := ({ dst := some 19, op := Op.call { callee := Callee.value (Operand.func 34), args := #[], argTypes := #[] }, type := 40, pos := "worlds.go:49", after := #[{ on := 10, ground := Ground.chain }], guard := none } : Oper)) rfl (fun Kq hKq => ?_) AllReadyH.nil
  go_simp
  (refine (S11.new_any w6).mono ?_; rintro e w7 ⟨rfl, hnl, hb⟩)
  have PP6 : Hid (Parts w7 w.heap.size [cellsP w1.heap.size M L02 0 0 0 0 0, clockP w2.heap.size kB 0 most ks D, permitsP w3.heap.size (fun _ => S4.pk0) ((0 : Nat) : Int) 0 0, linksP w4.heap.size S5.S0, tablesP w5.heap.size tO (Pw tB) 1 (S10.M0 0), notesP 74 .u8 w6.heap.size w6.heap.size (.slice none 0 0) []]) := Lib.hid (PP5.out.push (notesP 74 .u8 w6.heap.size w6.heap.size (.slice none 0 0) []) (hb) hnl (fun k e => Or.elim (show k = w6.heap.size ∨ (Value.slice none 0 0).ownBlock = some k from e) (fun e => Nat.le_of_eq e.symm) (fun e => by cases e)))
  have R7 : Hid (Below w.heap.size w w7) := Lib.hid (R6.out.trans (hb.mono R6.out.size))
  have B7 : Hid (Below w1.heap.size w1 w7) := Lib.hid (B6.out.trans (hb.mono B6.out.size))
  clear hb hnl
  refine hKq.out _ _ ?_ (fun hHeld => ?_)
  · exact S1.out _ B7.out
  clear hKq Kq
  (try simp only [Act.put, List.setIfInBounds_toArray, List.set_cons_zero, List.set_cons_succ])
  refine wpAnyH_take (i := 14) (oi := ({ dst := some 22, op := Op.build 43 #[(0, Operand.tmp 10), (1, Operand.tmp 15), (2, Operand.tmp 16), (3, Operand.tmp 17), (4, Operand.tmp 18), (5, Operand.tmp 19), (6, Operand.tmp 21)], type := 43, pos := "worlds.go:42", after := #[{ on := 2, ground := Ground.data }, { on := 7, ground := Ground.data }, { on := 8, ground := Ground.data }, { on := 9, ground := Ground.data }, { on := 10, ground := Ground.data }, { on := 11, ground := Ground.data }, { on := 13, ground := Ground.data }], guard := none } : Oper)) (v := ?vax8) rfl (by kernel_rfl) (by kernel_rfl) (by kernel_rfl) (fun _ _ _ h => h) (Or.inl ⟨by rfl, fun w hSw => ?hyax8⟩) (by assumption) ?rax8
  case hyax8 => (try dsimp only at hSw); go_simp; (try with_reducible rfl)
  (try simp only [Act.put, List.setIfInBounds_toArray, List.set_cons_zero, List.set_cons_succ])
  refine wpAnyH_ready (rs := [15]) (by kernel_rfl) (by simp) ?_
  refine AllReadyH.cons (o := ({ dst := some 23, op := Op.box 43 (Operand.tmp 22), type := 31, pos := "worlds.go:42", after := #[{ on := 14, ground := Ground.data }], guard := none } : Oper)) rfl (fun Kq hKq => ?_) AllReadyH.nil
  go_simp
  have HX : Hid (PW (w7.alloc (.cells (Wm.cs { cB := w1.heap.size, cM := M, L := L02, n := 0, k := 0, a := 0, was := 0, is := 0, kb := w2.heap.size, kB := kB, T := 0, most := most, ks := ks, D := D, pB := w3.heap.size, pf := fun _ => S4.pk0, pn := 0, pk := 0, pp := 0, lB := w4.heap.size, lk := S5.S0, tb := w5.heap.size, tO := tO, ts := Pw tB, tn := 1, tM := S10.M0 0, nb := w6.heap.size, nB := w6.heap.size, ns := .slice none 0 0, nD := [], wB := w7.heap.size, sp := spin }) 43)) w.heap.size { cB := w1.heap.size, cM := M, L := L02, n := 0, k := 0, a := 0, was := 0, is := 0, kb := w2.heap.size, kB := kB, T := 0, most := most, ks := ks, D := D, pB := w3.heap.size, pf := fun _ => S4.pk0, pn := 0, pk := 0, pp := 0, lB := w4.heap.size, lk := S5.S0, tb := w5.heap.size, tO := tO, ts := Pw tB, tn := 1, tM := S10.M0 0, nb := w6.heap.size, nB := w6.heap.size, ns := .slice none 0 0, nD := [], wB := w7.heap.size, sp := spin }) := Lib.hid (PP6.out.push (blockP w7.heap.size (.cells (Wm.cs { cB := w1.heap.size, cM := M, L := L02, n := 0, k := 0, a := 0, was := 0, is := 0, kb := w2.heap.size, kB := kB, T := 0, most := most, ks := ks, D := D, pB := w3.heap.size, pf := fun _ => S4.pk0, pn := 0, pk := 0, pp := 0, lB := w4.heap.size, lk := S5.S0, tb := w5.heap.size, tO := tO, ts := Pw tB, tn := 1, tM := S10.M0 0, nb := w6.heap.size, nB := w6.heap.size, ns := .slice none 0 0, nD := [], wB := w7.heap.size, sp := spin }) 43)) (below1 _ _) (heap_alloc_new _ _) (fun k e => Nat.le_of_eq (show k = w7.heap.size from e).symm))
  have HXB : Hid (Below w.heap.size w (w7.alloc (.cells (Wm.cs { cB := w1.heap.size, cM := M, L := L02, n := 0, k := 0, a := 0, was := 0, is := 0, kb := w2.heap.size, kB := kB, T := 0, most := most, ks := ks, D := D, pB := w3.heap.size, pf := fun _ => S4.pk0, pn := 0, pk := 0, pp := 0, lB := w4.heap.size, lk := S5.S0, tb := w5.heap.size, tO := tO, ts := Pw tB, tn := 1, tM := S10.M0 0, nb := w6.heap.size, nB := w6.heap.size, ns := .slice none 0 0, nD := [], wB := w7.heap.size, sp := spin }) 43))) := Lib.hid (R7.out.alloc R7.out.size _)
  have HXS : Hid (Below w1.heap.size w1 (w7.alloc (.cells (Wm.cs { cB := w1.heap.size, cM := M, L := L02, n := 0, k := 0, a := 0, was := 0, is := 0, kb := w2.heap.size, kB := kB, T := 0, most := most, ks := ks, D := D, pB := w3.heap.size, pf := fun _ => S4.pk0, pn := 0, pk := 0, pp := 0, lB := w4.heap.size, lk := S5.S0, tb := w5.heap.size, tO := tO, ts := Pw tB, tn := 1, tM := S10.M0 0, nb := w6.heap.size, nB := w6.heap.size, ns := .slice none 0 0, nD := [], wB := w7.heap.size, sp := spin }) 43))) := Lib.hid (B7.out.alloc B7.out.size _)
  have HXA : Hid (At0 { cB := w1.heap.size, cM := M, L := L02, n := 0, k := 0, a := 0, was := 0, is := 0, kb := w2.heap.size, kB := kB, T := 0, most := most, ks := ks, D := D, pB := w3.heap.size, pf := fun _ => S4.pk0, pn := 0, pk := 0, pp := 0, lB := w4.heap.size, lk := S5.S0, tb := w5.heap.size, tO := tO, ts := Pw tB, tn := 1, tM := S10.M0 0, nb := w6.heap.size, nB := w6.heap.size, ns := .slice none 0 0, nD := [], wB := w7.heap.size, sp := spin } spin most D) := Lib.hid ⟨rfl, rfl, rfl, rfl, rfl, rfl, rfl, rfl, rfl, rfl, rfl, rfl, rfl, rfl, rfl, rfl, rfl, rfl⟩
  unfold Wm.cs pcells at HX HXB HXS
  dsimp only at HX HXB HXS HXA
  refine hKq.out _ _ ?_ (fun hHeld => ?_)
  · exact S1.out _ HXS.out
  clear hKq Kq
  (try simp only [Act.put, List.setIfInBounds_toArray, List.set_cons_zero, List.set_cons_succ])
  refine wpAnyH_take (i := 16) (oi := ({ dst := some 4, op := Op.assign (Operand.tmp 23), type := 31, pos := "worlds.go:42", after := #[{ on := 15, ground := Ground.data }, { on := 11, ground := Ground.chain }, { on := 0, ground := Ground.phase }, { on := 1, ground := Ground.phase }, { on := 2, ground := Ground.phase }, { on := 3, ground := Ground.phase }, { on := 4, ground := Ground.phase }, { on := 5, ground := Ground.phase }, { on := 6, ground := Ground.phase }, { on := 7, ground := Ground.phase }, { on := 8, ground := Ground.phase }, { on := 9, ground := Ground.phase }, { on := 10, ground := Ground.phase }, { on := 11, ground := Ground.phase }, { on := 12, ground := Ground.phase }, { on := 13, ground := Ground.phase }, { on := 14, ground := Ground.phase }, { on := 15, ground := Ground.phase }], guard := none } : Oper)) (v := ?vax9) rfl (by kernel_rfl) (by kernel_rfl) (by kernel_rfl) (fun _ _ _ h => h) (Or.inl ⟨by rfl, fun w hSw => ?hyax9⟩) (by assumption) ?rax9
  case hyax9 => (try dsimp only at hSw); go_simp; (try with_reducible rfl)
  (try simp only [Act.put, List.setIfInBounds_toArray, List.set_cons_zero, List.set_cons_succ])
  refine wpAnyH_done (by kernel_rfl) ?_ _
  clear hHeld S1
  go_wp2_with fail
  go_ret2
  exact ⟨_, rfl, HX.out, HXA.out, HXB.out⟩
end Go.Proofs.YtbibinffdcjgfaaDoor.S12
namespace Go.Proofs.YtbibinffdcjgfaaDoor.S12
open Go.Proofs.YtbibinffdcjgfaaDoor Go.Proofs.YtbibinffdcjgfaaDoor.S11
open Go.RowKit

/-- What a call leaves: so many accesses and calls more, these notes; tables and the rest as they were. -/
structure Nx (X X' : Wm) (dn dp : Nat) (F : List Nt) : Prop where
  wB : X'.wB = X.wB
  n : X'.n = X.n + dn
  pn : X'.pn = X.pn + dp
  nD : X'.nD = F
  tM : X'.tM = X.tM
  tn : X'.tn = X.tn
def Stp (w w' : World) (base : Nat) (X : Wm) (dn dp : Nat) (F : List Nt) : Prop := ∃ X', PW w' base X' ∧ Nx X X' dn dp F ∧ Below base w w'
section
variable {w : World} {base : Nat} {X : Wm}
theorem left_w (h : PW w base X) {w' : World} {L : S2.LL} {k a was is : Nat} (l : S2.Left w w' X.cB X.cM L (X.n + 1) k a was is) : Stp w w' base X 1 0 X.nD := by
  obtain ⟨M', hp, hb⟩ := t_cells (i := 0) h rfl l
  exact ⟨{ X with cM := M', L := L, n := X.n + 1, k := k, a := a, was := was, is := is }, hp, ⟨rfl, rfl, rfl, rfl, rfl, rfl⟩, hb⟩
theorem load_w (h : PW w base X) {a : Nat} (ha : a < 4294967296) (hn : X.n ≤ 1000000000) :
    Calls Tryd.prog 25 #[Pw X.cB, .int .u32 a] w fun e w' => e = .returned (.int .u64 (S2.look X.L a : Nat)) ∧ Stp w w' base X 1 0 X.nD := by
  refine (S2.load_any w X.cB X.cM X.L X.n X.k X.a X.was X.is a h.cells ha (by omega)).mono ?_
  rintro e w' ⟨rfl, hl⟩
  exact ⟨rfl, left_w h hl⟩
theorem unpark_w (h : PW w base X) {i : Nat} (hi : i < 128) (hn : X.pn ≤ 1000000000) :
    Calls Tryd.prog 26 #[Pw X.pB, .int .i64 (i : Int)] w fun e w' => e = .returned (.tuple #[]) ∧ Stp w w' base X 0 1 X.nD := by
  refine (S4.unpark_yes h.permits (by omega) hi).mono ?_
  rintro e w' ⟨rfl, hl⟩
  obtain ⟨hp, hb⟩ := t_permits (i := 2) h rfl hl
  exact ⟨rfl, { X with pf := _, pn := X.pn + 1, pk := _, pp := _ }, hp, ⟨rfl, rfl, rfl, rfl, rfl, rfl⟩, hb⟩
end
theorem eql94 (d : Nt) (w : World) : (binOp .eql 62 (ag .u8 d) (ag .u8 d)).run Tryd.prog w = .ok (.bool true) w := by
  obtain ⟨s, t, k, a, o, b, v⟩ := d
  simp [go_sem, Tryd.underlying62]
/-- The note of the examples. -/
abbrev nt5 : Nt := ⟨2, 5, 16, 1024, -1, 0, 0⟩
set_option maxRecDepth 100000 in
set_option maxHeartbeats 4000000 in
theorem lives_any (w : World) (hT : Tab w) : Calls Tryd.prog 13 #[] w fun e w' => e = .returned (.bool true) ∧ Below w.heap.size w w' := by
  have hck : ∀ W, Below w.heap.size w W → Calls Tryd.prog 30 #[.slice none 0 0, .int .u64 ((0 : Nat) : Int)] W (S3.Made W 0 0 []) := fun W _ => S3.new_any (D := []) (b2 := 0) 0 0 (Nat.le_refl _) (by omega) (by omega) S3.Rd.nil (Nat.zero_le _) (fun d hd => by cases hd)
  have hnew : Calls Tryd.prog 14 #[.agg #[.int .i64 3, .int .u64 0, .slice none 0 0]] w fun e w' => NewW w w' 3 0 [] e := new_yes 3 0 0 0 none (by decide) hck
  have hnot : ∀ W, Calls Tryd.prog 14 #[.agg #[.int .i64 17, .int .u64 0, .slice none 0 0]] W fun e w' => e = .returned (.tuple #[.pointer none, .int .i64 1]) ∧ Below W.heap.size W w' := fun W => new_no 17 0 0 0 none (by decide) W
  have heq := eql94 nt5
  have HT := Lib.hid hT; have HNOT := Lib.hid hnot
  clear hck hnot hT
  go_enter Tryd.func13, Tryd.ntmps13
  go_upto_region 2 with (go_at_call 14; refine hnew.mono ?_; rintro e w1 ⟨X, rfl, hp, h0, hb⟩)
  go_upto_region 3 with (go_at_call 14; refine (HNOT.out _).mono ?_; rintro e w2 ⟨rfl, hb2⟩)
  have hp2 := hp.new hb2
  have HB2 := Lib.hid (hb.trans (hb2.mono hb.size))
  have hpk : Calls Tryd.prog 24 #[Pw X.cB, .int .u32 0] w2 fun e w' => e = .returned (.int .u64 2) ∧ w2 = w' := by
    have h := S2.peek_any w2 X.cB X.cM X.L X.n X.k X.a X.was X.is 0 hp2.cells (by omega)
    rw [h0.L, show S2.look L02 0 = 2 by decide] at h
    exact h
  have hst : Calls Tryd.prog 7 #[Pw X.wB] w2 fun e w' => e = .returned (.int .i64 0) ∧ Below w2.heap.size w2 w' := by
    have h := steps_any hp2 (by rw [h0.n]; omega) (by rw [h0.pn]; omega)
    rw [h0.n, h0.pn] at h
    exact h
  have c0 := hp2.c0
  have HPK := Lib.hid hpk; have HST := Lib.hid hst; have HP2 := Lib.hid hp2; have H0 := Lib.hid h0
  clear hnew hp hb hb2 hp2 hpk hst h0
  go_upto_region 5 with (first
    | (go_at_call 24; refine HPK.out.mono ?_; rintro e w3 ⟨rfl, rfl⟩)
    | (go_at_call 7; refine HST.out.mono ?_; rintro e w3 ⟨rfl, hb3⟩))
  have hp3 := HP2.out.new hb3
  have HB3 := Lib.hid (HB2.out.trans (hb3.mono HB2.out.size))
  have c0 := hp3.c0
  have hld := load_w hp3 (a := 0) (by omega) (by rw [H0.out.n]; omega)
  have HP3 := Lib.hid hp3; have HLD := Lib.hid hld
  clear hp3 hld hb3 HPK HST HP2
  go_upto_region 6 with (go_at_call 25; refine HLD.out.mono ?_; rintro e w4 ⟨rfl, X4, hp4, hx4, hb4⟩)
  have hst : Calls Tryd.prog 7 #[Pw X.wB] w4 fun e w' => e = .returned (.int .i64 1) ∧ Below w4.heap.size w4 w' := by
    have h := steps_any hp4 (by rw [hx4.n, H0.out.n]; omega) (by rw [hx4.pn, H0.out.pn]; omega)
    rw [hx4.n, hx4.pn, hx4.wB, H0.out.n, H0.out.pn] at h
    exact h
  have HP4 := Lib.hid hp4; have HX4 := Lib.hid hx4; have HB4 := Lib.hid (HB3.out.trans hb4); have HST := Lib.hid hst
  clear hp4 hx4 hb4 hst HLD HP3 c0
  go_upto_region 7 with (go_at_call 7; refine HST.out.mono ?_; rintro e w5 ⟨rfl, hb5⟩)
  have hp5 := HP4.out.new hb5
  have HB5 := Lib.hid (HB4.out.trans (hb5.mono (PW.size HP4.out)))
  have c2 := hp5.c2
  rw [HX4.out.wB] at c2
  have hup := unpark_w hp5 (i := 0) (by omega) (by rw [HX4.out.pn, H0.out.pn]; omega)
  have hup' : Calls Tryd.prog 26 #[Pw X4.pB, .int .i64 0] w5 fun e w' => e = .returned (.tuple #[]) ∧ Stp w5 w' w.heap.size X4 0 1 X4.nD := hup
  have HUP := Lib.hid hup'
  clear hp5 hb5 HST hup hup'
  go_upto_region 8 with (go_at_call 26; refine HUP.out.mono ?_; rintro e w6 ⟨rfl, X6, hp6, hx6, hb6⟩)
  have e1 : X6.n = 1 := by rw [hx6.n, HX4.out.n, H0.out.n]
  have e2 : X6.pn = 1 := by rw [hx6.pn, HX4.out.pn, H0.out.pn]
  have e3 : X6.nD = [] := by rw [hx6.nD, HX4.out.nD, H0.out.nD]
  have e4 : X6.wB = X.wB := by rw [hx6.wB, HX4.out.wB]
  have hst : Calls Tryd.prog 7 #[Pw X.wB] w6 fun e w' => e = .returned (.int .i64 2) ∧ Below w6.heap.size w6 w' := by
    have h := steps_any hp6 (by rw [e1]; omega) (by rw [e2]; omega)
    rw [e1, e2, e4] at h
    exact h
  have HE := Lib.hid (And.intro e1 (And.intro e2 (And.intro e3 e4)))
  have HP6 := Lib.hid hp6; have HB6 := Lib.hid (HB5.out.trans hb6); have HST := Lib.hid hst
  clear e1 e2 e3 e4 hp6 hx6 hb6 hst HUP c2 HP4
  go_upto_region 9 with (go_at_call 7; refine HST.out.mono ?_; rintro e w7 ⟨rfl, hb7⟩)
  have hp7 := HP6.out.new hb7
  have HB7 := Lib.hid (HB6.out.trans (hb7.mono (PW.size HP6.out)))
  have hnt : Calls Tryd.prog 5 #[Pw X.wB, .int .i64 5, .int .u8 16, .int .u32 1024] w7 fun e w' => e = .returned (.tuple #[]) ∧ Noted w7 w' w.heap.size X6 nt5 := by
    have h := note_any hp7 (by rw [HE.out.1]; omega) (by rw [HE.out.2.1]; omega) (by rw [HE.out.2.2.1]; simp) (HT.out.below HB7.out HT.out.1) 5 1024 16 (by omega)
    rw [HE.out.1, HE.out.2.1, HE.out.2.2.2] at h
    exact h
  have HNT := Lib.hid hnt
  clear hp7 hb7 hnt HST HP6
  go_upto_region 10 with (go_at_call 5; refine HNT.out.mono ?_; rintro e w8 ⟨rfl, s8, hp8, hb8⟩)
  have hD : addD X6.nD nt5 = [nt5] := by rw [HE.out.2.2.1]; decide
  rw [hD] at hp8
  have c5 := hp8.c5
  dsimp only at c5
  rw [HE.out.2.2.2] at c5
  have hal : Calls Tryd.prog 27 #[Pw X6.nB] w8 fun e w' => S11.Told w8 w' [nt5] e := S11.all_any hp8.notes (by simp)
  have HB8 := Lib.hid (HB7.out.trans hb8); have HAL := Lib.hid hal
  clear hp8 hb8 hD hal HNT
  go_upto_region 11 with (go_at_call 27; refine HAL.out.mono ?_; rintro e w9 ⟨A9, rfl, hr9, hb9⟩)
  have HB9 := Lib.hid (HB8.out.trans (hb9.mono HB8.out.size))
  obtain ⟨g, o, rfl, hg, hN⟩ := hr9.rd.note (i := 0) (by simp)
  have hN' : S11.NtAt w9 .u8 g o nt5 := by simpa using hN
  obtain ⟨d0, d1, d2, d3, d4, d5, d6⟩ := hN'
  clear hr9 hb9 hN HAL c5
  go_wp2_with fail
  go_ret
  exact ⟨rfl, HB9.out⟩
end Go.Proofs.YtbibinffdcjgfaaDoor.S12
namespace Go.Proofs.YtbibinffdcjgfaaDoor
open Go.Proofs.YtbibinffdcjgfaaDoor.S12 Go.Proofs.YtbibinffdcjgfaaDoor.S11
open Go.RowKit

def SpAt (T : TypeId) (w : World) (B : Nat) (v : Int) : Prop := w.heap[B]? = some (.cells #[.int .i64 v] T (0, 0))
section
variable {T : TypeId} {w w' : World} {B : Nat} {v : Int}
theorem SpAt.lt (h : SpAt T w B v) : B < w.heap.size := (Array.getElem?_eq_some_iff.1 h).1
theorem SpAt.c0 (h : SpAt T w B v) : w.cell? ⟨B, 0, none⟩ = some (.int .i64 v) := cell_row h 0
theorem SpAt.z0 (h : SpAt T w B v) : w.frozen? ⟨B, 0, none⟩ = false := froz_row h 0
theorem SpAt.new (h : SpAt T w B v) (b : Below w.heap.size w w') : SpAt T w' B v := (b.block B h.lt).trans h
theorem SpAt.put (h : SpAt T w B v) (u : Int) : SpAt T (w.setCell ⟨B, 0, none⟩ (.int .i64 u)) B u := by
  have h' : w.heap[B]? = _ := h
  simp [SpAt, World.setCell, Array.getElem?_modify, h']
end
theorem SpAt.other {T : TypeId} {w : World} {B B' : Nat} {v : Int} (h : SpAt T w B v) (hne : B' ≠ B) {u : Value} : SpAt T (w.setCell ⟨B', 0, none⟩ u) B v := by
  have h' : w.heap[B]? = _ := h
  simp [SpAt, World.setCell, Array.getElem?_modify, h', hne]
theorem spin_yes {w : World} {B : Nat} {v : Int} (h : SpAt 49 w B v) (h0 : 0 < v) (h1 : v ≤ 9223372036854775807) : Calls Tryd.prog 11 #[Pw B] w fun e w' => e = .returned (.bool true) ∧ w' = w.setCell ⟨B, 0, none⟩ (.int .i64 (v - 1)) := by
  have c0 := h.c0; have z0 := h.z0
  have hd : decide (v ≤ 0) = false := by rw [decide_eq_false_iff_not]; omega
  have hw : wrap64 (v - 1) = v - 1 := by unfold wrap64; omega
  clear h h0 h1
  go_enter Tryd.func11, Tryd.ntmps11
  go_wp2_with fail
  go_ret
  exact ⟨rfl, rfl⟩
theorem spin_no {w : World} {B : Nat} {v : Int} (h : SpAt 49 w B v) (h0 : v ≤ 0) : Calls Tryd.prog 11 #[Pw B] w fun e w' => e = .returned (.bool false) ∧ w = w' := by
  have c0 := h.c0
  have hd : decide (v ≤ 0) = true := by rw [decide_eq_true_iff]; omega
  clear h h0
  go_enter Tryd.func11, Tryd.ntmps11
  go_wp2_with fail
  go_ret
  exact ⟨rfl, rfl⟩
theorem spin_nil (w : World) : Calls Tryd.prog 11 #[.pointer none] w fun e w' => e = .returned (.bool false) ∧ w = w' := by
  go_enter Tryd.func11, Tryd.ntmps11
  go_wp2_with fail
  go_ret
  exact ⟨rfl, rfl⟩
theorem rspin_yes {w : World} {B : Nat} {v : Int} (h : SpAt 50 w B v) (h0 : 0 < v) (h1 : v ≤ 9223372036854775807) : Calls Tryd.prog 12 #[Pw B] w fun e w' => e = .returned (.bool true) ∧ w' = w.setCell ⟨B, 0, none⟩ (.int .i64 (v - 1)) := by
  have c0 := h.c0; have z0 := h.z0
  have hd : decide (v ≤ 0) = false := by rw [decide_eq_false_iff_not]; omega
  have hw : wrap64 (v - 1) = v - 1 := by unfold wrap64; omega
  clear h h0 h1
  go_enter Tryd.func12, Tryd.ntmps12
  go_wp2_with fail
  go_ret
  exact ⟨rfl, rfl⟩
theorem rspin_no {w : World} {B : Nat} {v : Int} (h : SpAt 50 w B v) (h0 : v ≤ 0) : Calls Tryd.prog 12 #[Pw B] w fun e w' => e = .returned (.bool false) ∧ w = w' := by
  have c0 := h.c0
  have hd : decide (v ≤ 0) = true := by rw [decide_eq_true_iff]; omega
  clear h h0
  go_enter Tryd.func12, Tryd.ntmps12
  go_wp2_with fail
  go_ret
  exact ⟨rfl, rfl⟩
theorem begin_none {w : World} {B : Nat} {v : Int} (h : SpAt 49 w B v) : Calls Tryd.prog 10 #[Pw B, .pointer none] w fun e w' => e = .returned (.tuple #[]) ∧ w' = w.setCell ⟨B, 0, none⟩ (.int .i64 0) := by
  have c0 := h.c0; have z0 := h.z0
  clear h
  go_enter Tryd.func10, Tryd.ntmps10
  go_wp2_with fail
  go_end0
  exact ⟨rfl, rfl⟩
theorem begin_nil (x : Value) (w : World) : Calls Tryd.prog 10 #[.pointer none, x] w fun e w' => e = .returned (.tuple #[]) ∧ w = w' := by
  go_enter Tryd.func10, Tryd.ntmps10
  go_wp2_with fail
  (try simp only [Exit.inBlock, Exit.then])
  refine bodyPost_ret (results_none rfl _ _ _) rfl ⟨rfl, rfl⟩
/-- Spins beside a world. -/
structure Ring (w0 w : World) (base : Nat) (X : Wm) (B : Nat) (v : Int) : Prop where
  pw : PW w base X
  sp : SpAt 49 w B v
  nf : ∀ k, Foot X k → k ≠ B
  le : base ≤ B
  bl : Below base w0 w
theorem Ring.put {w0 w : World} {base : Nat} {X : Wm} {B : Nat} {v : Int} (h : Ring w0 w base X B v) (u : Int) : Ring w0 (w.setCell ⟨B, 0, none⟩ (.int .i64 u)) base X B u :=
  ⟨h.pw.keep ((Turns.refl (fun k => k = B) w).setCell ⟨B, 0, none⟩ _ rfl) h.nf, h.sp.put u, h.nf, h.le, h.bl.setCell (p := ⟨B, 0, none⟩) h.le _⟩
theorem begin_r {w0 w : World} {base : Nat} {X : Wm} {B : Nat} {v : Int} (h : Ring w0 w base X B v) : Calls Tryd.prog 10 #[Pw B, Pw X.wB] w fun e w' => e = .returned (.tuple #[]) ∧ Ring w0 w' base X B X.sp := by
  have h1 := h.put 0
  have c0 := h.sp.c0; have z0 := h.sp.z0
  have c1 := h1.sp.c0; have z1 := h1.sp.z0
  have d6 := h1.pw.c6
  have H2 := Lib.hid (h1.put X.sp)
  clear h h1
  go_enter Tryd.func10, Tryd.ntmps10
  go_wp2_with fail
  go_end0
  exact ⟨rfl, H2.out⟩
theorem spin_r {w0 w : World} {base : Nat} {X : Wm} {B : Nat} {v : Int} (h : Ring w0 w base X B v) (h0 : 0 < v) (h1 : v ≤ 9223372036854775807) : Calls Tryd.prog 11 #[Pw B] w fun e w' => e = .returned (.bool true) ∧ Ring w0 w' base X B (v - 1) := by
  refine (spin_yes h.sp h0 h1).mono ?_
  rintro e w' ⟨rfl, rfl⟩
  exact ⟨rfl, h.put _⟩
end Go.Proofs.YtbibinffdcjgfaaDoor
namespace Go.Proofs.YtbibinffdcjgfaaDoor
open Go.Proofs.YtbibinffdcjgfaaDoor.S12 Go.Proofs.YtbibinffdcjgfaaDoor.S11
open Go.RowKit

/-- A world that no call made. -/
def VAt (w : World) (B : Nat) : Prop := w.heap[B]? = some (.cells Tryd.zeroCells43 43 (0, 0))
section
variable {w w' : World} {B : Nat}
theorem VAt.lt (h : VAt w B) : B < w.heap.size := (Array.getElem?_eq_some_iff.1 h).1
theorem VAt.new (h : VAt w B) (b : Below w.heap.size w w') : VAt w' B := (b.block B h.lt).trans h
theorem zv0 : Tryd.zeroCells43[0]? = some (.pointer none) := by kernel_rfl
theorem zv1 : Tryd.zeroCells43[1]? = some (.pointer none) := by kernel_rfl
theorem zv2 : Tryd.zeroCells43[2]? = some (.pointer none) := by kernel_rfl
theorem zv4 : Tryd.zeroCells43[4]? = some (.pointer none) := by kernel_rfl
theorem zv5 : Tryd.zeroCells43[5]? = some (.pointer none) := by kernel_rfl
theorem VAt.c0 (h : VAt w B) : w.cell? ⟨B, 0, none⟩ = some (.pointer none) := (cell_row h 0).trans zv0
theorem VAt.c1 (h : VAt w B) : w.cell? ⟨B, 1, none⟩ = some (.pointer none) := (cell_row h 1).trans zv1
theorem VAt.c2 (h : VAt w B) : w.cell? ⟨B, 2, none⟩ = some (.pointer none) := (cell_row h 2).trans zv2
theorem VAt.c4 (h : VAt w B) : w.cell? ⟨B, 4, none⟩ = some (.pointer none) := (cell_row h 4).trans zv4
theorem VAt.c5 (h : VAt w B) : w.cell? ⟨B, 5, none⟩ = some (.pointer none) := (cell_row h 5).trans zv5
end
theorem ccount_nil (w : World) : Calls Tryd.prog 16 #[.pointer none] w fun e w' => e = .returned (.int .i64 0) ∧ w = w' := by
  go_enter Tryd.func16, Tryd.ntmps16
  go_wp2
  go_ret
  exact ⟨rfl, rfl⟩
theorem steps_nil (w : World) : Calls Tryd.prog 7 #[.pointer none] w fun e w' => e = .returned (.int .i64 0) ∧ w = w' := by
  go_enter Tryd.func7, Tryd.ntmps7
  go_wp2
  go_ret
  exact ⟨rfl, rfl⟩
set_option maxRecDepth 100000 in
set_option maxHeartbeats 4000000 in
theorem steps_void {w : World} {B : Nat} (h : VAt w B) : Calls Tryd.prog 7 #[Pw B] w fun e w' => e = .returned (.int .i64 0) ∧ Below w.heap.size w w' := by
  have hmf : ∀ (fn : Fn) (first cap : Array Value) (w : World), (Instr.makeFunc fn first cap).run Tryd.prog w = .ok (.func fn first cap) w := fun _ _ _ _ => rfl
  have hi0 : ∀ (x y : Value) (w : World), (Instr.index 63 (.agg #[x, y]) (.int .i64 0)).run Tryd.prog w = .ok x w := fun _ _ _ => by kernel_rfl
  have hi1 : ∀ (x y : Value) (w : World), (Instr.index 63 (.agg #[x, y]) (.int .i64 1)).run Tryd.prog w = .ok y w := fun _ _ _ => by kernel_rfl
  have c0 := h.c0; have c2 := h.c2
  clear h
  go_enter Tryd.func7, Tryd.ntmps7
  go_wp2_with fail
  go_quiet (fail)
  go_wp2_with fail
  have HB0 : Hid (Below w.heap.size w (w.drewN nq)) := Lib.hid ⟨rfl, rfl, rfl, Nat.le_refl _, fun _ _ => rfl⟩
  go_loopg [3, 5, 19] 2 (fun q s3 s5 s19 wx => Below w.heap.size w wx ∧ ((q = 2 ∧ s19 = .int .i64 0 ∧ s3 = .int .i64 0) ∨ (q = 1 ∧ s19 = .int .i64 1 ∧ s3 = .int .i64 0) ∨ (q = 0 ∧ s19 = .int .i64 2 ∧ s3 = .int .i64 0)))
  case atStart => exact ⟨HB0.out, .inl ⟨rfl, rfl, rfl⟩⟩
  case round =>
    obtain ⟨hb, h⟩ := hrel
    have HB := Lib.hid hb
    clear hb
    rcases h with ⟨rfl, rfl, rfl⟩ | ⟨rfl, rfl, rfl⟩ | ⟨rfl, rfl, rfl⟩
    · go_wp2_with (go_at_call 16; refine (ccount_nil _).mono ?_; rintro e w' ⟨rfl, rfl⟩)
      go_roundg 1
      case measure => omega
      case rel => exact ⟨HB.out, .inr (.inl ⟨rfl, rfl, rfl⟩)⟩
    · go_wp2_with (go_at_call 17; refine (S4.pcount_nil _).mono ?_; rintro e w' ⟨rfl, rfl⟩)
      go_roundg 0
      case measure => omega
      case rel => exact ⟨HB.out, .inr (.inr ⟨rfl, rfl, rfl⟩)⟩
    · go_wp2_with fail
      go_ret
      exact ⟨rfl, HB.out⟩
theorem noteOf_nil (t a o b : Int) (k : Int) (w : World) : Calls Tryd.prog 6 #[.pointer none, .int .i64 t, .int .u8 k, .int .u32 a, .int .i64 o, .int .u32 b] w fun e w' => e = .returned (.tuple #[]) ∧ w = w' := by
  go_enter Tryd.func6, Tryd.ntmps6
  go_wp2_with fail
  (try simp only [Exit.inBlock, Exit.then])
  refine bodyPost_ret (results_none rfl _ _ _) rfl ⟨rfl, rfl⟩
theorem note_nil (t a : Int) (k : Int) (w : World) : Calls Tryd.prog 5 #[.pointer none, .int .i64 t, .int .u8 k, .int .u32 a] w fun e w' => e = .returned (.tuple #[]) ∧ w = w' := by
  go_enter Tryd.func5, Tryd.ntmps5
  go_wp2_with (go_at_call 6; refine (noteOf_nil _ _ _ _ _ _).mono ?_; rintro e w' ⟨rfl, rfl⟩)
  go_end0
  exact ⟨rfl, rfl⟩
set_option maxRecDepth 100000 in
set_option maxHeartbeats 4000000 in
theorem noteOf_void {w : World} {B : Nat} (h : VAt w B) (t a o b : Int) (k : Nat) : Calls Tryd.prog 6 #[Pw B, .int .i64 t, .int .u8 (k : Int), .int .u32 a, .int .i64 o, .int .u32 b] w fun e w' => e = .returned (.tuple #[]) ∧ Below w.heap.size w w' := by
  have HST := Lib.hid (fun (W : World) (q : Below w.heap.size w W) => steps_void (h.new q))
  have HC5 := Lib.hid (fun (W : World) (q : Below w.heap.size w W) => (h.new q).c5)
  have HB0 : Hid (Below w.heap.size w w.drew) := Lib.hid ((Below.refl _ _).drew)
  have c5 := h.c5
  clear h
  go_enter Tryd.func6, Tryd.ntmps6
  go_upto_region 1 with (fail)
  refine wp_region_held_drew (S := fun w' => w'.cell? ⟨B, 5, none⟩ = some (.pointer none)) (by kernel_rfl) ?_ (fun hHeld => ?_)
  · exact c5
  refine wpAnyH_take (i := 0) (oi := ({ dst := some 14, op := Op.move (Operand.tmp 0), type := 31, pos := "worlds.go:77", after := #[], guard := none } : Oper)) (v := ?v0) rfl (by kernel_rfl) (by kernel_rfl) (by kernel_rfl) (fun _ _ _ h => h) (Or.inl ⟨by rfl, fun w hSw => ?hy0⟩) (by assumption) ?r0
  case hy0 => (try dsimp only at hSw); go_simp; (try with_reducible rfl)
  (try simp only [Act.put, List.setIfInBounds_toArray, List.set_cons_zero, List.set_cons_succ])
  refine wpAnyH_take (i := 1) (oi := ({ dst := some 15, op := Op.nilCheck (Operand.tmp 14), type := 0, pos := "worlds.go:77", after := #[{ on := 0, ground := Ground.data }], guard := none } : Oper)) (v := ?v1) rfl (by kernel_rfl) (by kernel_rfl) (by kernel_rfl) (fun _ _ _ h => h) (Or.inl ⟨by rfl, fun w hSw => ?hy1⟩) (by assumption) ?r1
  case hy1 => (try dsimp only at hSw); go_simp; (try with_reducible rfl)
  (try simp only [Act.put, List.setIfInBounds_toArray, List.set_cons_zero, List.set_cons_succ])
  refine wpAnyH_take (i := 2) (oi := ({ dst := some 16, op := Op.fieldAddr 43 (Operand.tmp 15) 5, type := 0, pos := "worlds.go:77", after := #[{ on := 1, ground := Ground.data }], guard := none } : Oper)) (v := ?v2) rfl (by kernel_rfl) (by kernel_rfl) (by kernel_rfl) (fun _ _ _ h => h) (Or.inl ⟨by rfl, fun w hSw => ?hy2⟩) (by assumption) ?r2
  case hy2 => (try dsimp only at hSw); go_simp; (try with_reducible rfl)
  (try simp only [Act.put, List.setIfInBounds_toArray, List.set_cons_zero, List.set_cons_succ])
  refine wpAnyH_take (i := 3) (oi := ({ dst := some 17, op := Op.load 40 (Operand.tmp 16), type := 40, pos := "worlds.go:77", after := #[{ on := 2, ground := Ground.data }], guard := none } : Oper)) (v := ?v3) rfl (by kernel_rfl) (by kernel_rfl) (by kernel_rfl) (fun _ _ _ h => h) (Or.inl ⟨by rfl, fun w hSw => ?hy3⟩) (by assumption) ?r3
  case hy3 => (try dsimp only at hSw); go_simp; (try with_reducible rfl)
  (try simp only [Act.put, List.setIfInBounds_toArray, List.set_cons_zero, List.set_cons_succ])
  refine wpAnyH_take (i := 4) (oi := ({ dst := some 18, op := Op.move (Operand.tmp 0), type := 31, pos := "worlds.go:77", after := #[], guard := none } : Oper)) (v := ?v4) rfl (by kernel_rfl) (by kernel_rfl) (by kernel_rfl) (fun _ _ _ h => h) (Or.inl ⟨by rfl, fun w hSw => ?hy4⟩) (by assumption) ?r4
  case hy4 => (try dsimp only at hSw); go_simp; (try with_reducible rfl)
  (try simp only [Act.put, List.setIfInBounds_toArray, List.set_cons_zero, List.set_cons_succ])
  refine wpAnyH_take (i := 6) (oi := ({ dst := some 20, op := Op.move (Operand.tmp 1), type := 3, pos := "worlds.go:77", after := #[], guard := none } : Oper)) (v := ?v6) rfl (by kernel_rfl) (by kernel_rfl) (by kernel_rfl) (fun _ _ _ h => h) (Or.inl ⟨by rfl, fun w hSw => ?hy6⟩) (by assumption) ?r6
  case hy6 => (try dsimp only at hSw); go_simp; (try with_reducible rfl)
  (try simp only [Act.put, List.setIfInBounds_toArray, List.set_cons_zero, List.set_cons_succ])
  refine wpAnyH_take (i := 7) (oi := ({ dst := some 21, op := Op.move (Operand.tmp 2), type := 33, pos := "worlds.go:77", after := #[], guard := none } : Oper)) (v := ?v7) rfl (by kernel_rfl) (by kernel_rfl) (by kernel_rfl) (fun _ _ _ h => h) (Or.inl ⟨by rfl, fun w hSw => ?hy7⟩) (by assumption) ?r7
  case hy7 => (try dsimp only at hSw); go_simp; (try with_reducible rfl)
  (try simp only [Act.put, List.setIfInBounds_toArray, List.set_cons_zero, List.set_cons_succ])
  refine wpAnyH_take (i := 8) (oi := ({ dst := some 22, op := Op.move (Operand.tmp 3), type := 23, pos := "worlds.go:77", after := #[], guard := none } : Oper)) (v := ?v8) rfl (by kernel_rfl) (by kernel_rfl) (by kernel_rfl) (fun _ _ _ h => h) (Or.inl ⟨by rfl, fun w hSw => ?hy8⟩) (by assumption) ?r8
  case hy8 => (try dsimp only at hSw); go_simp; (try with_reducible rfl)
  (try simp only [Act.put, List.setIfInBounds_toArray, List.set_cons_zero, List.set_cons_succ])
  refine wpAnyH_take (i := 9) (oi := ({ dst := some 23, op := Op.move (Operand.tmp 4), type := 3, pos := "worlds.go:77", after := #[], guard := none } : Oper)) (v := ?v9) rfl (by kernel_rfl) (by kernel_rfl) (by kernel_rfl) (fun _ _ _ h => h) (Or.inl ⟨by rfl, fun w hSw => ?hy9⟩) (by assumption) ?r9
  case hy9 => (try dsimp only at hSw); go_simp; (try with_reducible rfl)
  (try simp only [Act.put, List.setIfInBounds_toArray, List.set_cons_zero, List.set_cons_succ])
  refine wpAnyH_take (i := 10) (oi := ({ dst := some 24, op := Op.move (Operand.tmp 5), type := 23, pos := "worlds.go:77", after := #[], guard := none } : Oper)) (v := ?v10) rfl (by kernel_rfl) (by kernel_rfl) (by kernel_rfl) (fun _ _ _ h => h) (Or.inl ⟨by rfl, fun w hSw => ?hy10⟩) (by assumption) ?r10
  case hy10 => (try dsimp only at hSw); go_simp; (try with_reducible rfl)
  (try simp only [Act.put, List.setIfInBounds_toArray, List.set_cons_zero, List.set_cons_succ])
  refine wpAnyH_ready (rs := [5]) (by kernel_rfl) (by simp) ?_
  refine AllReadyH.cons (o := ({ dst := some 19, op := Op.call { callee := Callee.value (Operand.func 7), args := #[Operand.tmp 18], argTypes := #[31] }, type := 3, pos := "worlds.go:77", after := #[{ on := 4, ground := Ground.data }], guard := none } : Oper)) rfl (fun Kq hKq => ?_) AllReadyH.nil
  go_simp
  (refine (HST.out _ HB0.out).mono ?_; rintro e w1 ⟨rfl, hb1⟩)
  refine hKq.out _ _ ?_ (fun hHeld => ?_)
  · exact HC5.out _ (HB0.out.trans (hb1.mono HB0.out.size))
  clear hKq Kq
  (try simp only [Act.put, List.setIfInBounds_toArray, List.set_cons_zero, List.set_cons_succ])
  refine wpAnyH_take (i := 11) (oi := ({ dst := some 25, op := Op.build 62 #[(0, Operand.tmp 19), (1, Operand.tmp 20), (2, Operand.tmp 21), (3, Operand.tmp 22), (4, Operand.tmp 23), (5, Operand.tmp 24)], type := 62, pos := "worlds.go:77", after := #[{ on := 5, ground := Ground.data }, { on := 6, ground := Ground.data }, { on := 7, ground := Ground.data }, { on := 8, ground := Ground.data }, { on := 9, ground := Ground.data }, { on := 10, ground := Ground.data }], guard := none } : Oper)) (v := ?v11) rfl (by kernel_rfl) (by kernel_rfl) (by kernel_rfl) (fun _ _ _ h => h) (Or.inl ⟨by rfl, fun w hSw => ?hy11⟩) (by assumption) ?r11
  case hy11 => (try dsimp only at hSw); go_simp; (try with_reducible rfl)
  (try simp only [Act.put, List.setIfInBounds_toArray, List.set_cons_zero, List.set_cons_succ])
  refine wpAnyH_ready (rs := [12]) (by kernel_rfl) (by simp) ?_
  refine AllReadyH.cons (o := ({ dst := some 26, op := Op.call { callee := Callee.value (Operand.func 15), args := #[Operand.tmp 17, Operand.tmp 25], argTypes := #[40, 62] }, type := 53, pos := "worlds.go:77", after := #[{ on := 3, ground := Ground.data }, { on := 11, ground := Ground.data }, { on := 5, ground := Ground.chain }], guard := none } : Oper)) rfl (fun Kq hKq => ?_) AllReadyH.nil
  go_simp
  (refine (S11.add_nil _ ⟨0, t, k, a, o, b, 0⟩).mono ?_; rintro e w2 ⟨rfl, hb2⟩)
  refine hKq.out _ _ ?_ (fun hHeld => ?_)
  · exact HC5.out _ ((HB0.out.trans (hb1.mono HB0.out.size)).trans (hb2.mono (HB0.out.trans (hb1.mono HB0.out.size)).size))
  clear hKq Kq
  (try simp only [Act.put, List.setIfInBounds_toArray, List.set_cons_zero, List.set_cons_succ])
  refine wpAnyH_done (by kernel_rfl) ?_ _

  go_wp2_with fail
  go_end0
  exact ⟨rfl, (HB0.out.trans (hb1.mono HB0.out.size)).trans (hb2.mono (HB0.out.trans (hb1.mono HB0.out.size)).size)⟩
theorem note_void {w : World} {B : Nat} (h : VAt w B) (t a : Int) (k : Nat) : Calls Tryd.prog 5 #[Pw B, .int .i64 t, .int .u8 (k : Int), .int .u32 a] w fun e w' => e = .returned (.tuple #[]) ∧ Below w.heap.size w w' := by
  have HN := Lib.hid (noteOf_void h t a (-1) 0 k)
  clear h
  go_enter Tryd.func5, Tryd.ntmps5
  go_wp2_with (go_at_call 6; refine HN.out.mono ?_; rintro e w1 ⟨rfl, hn⟩)
  go_end0
  exact ⟨rfl, hn⟩
theorem fire_nil (b i : Int) (w : World) : Calls Tryd.prog 8 #[.pointer none, .agg #[.int .i64 b, .int .i64 i]] w fun e w' => e = .returned (.bool false) ∧ Below w.heap.size w w' := by
  go_enter Tryd.func8, Tryd.ntmps8
  go_wp2
  go_ret
  exact ⟨rfl, (Below.refl _ _).alloc (Nat.le_refl _) _⟩
set_option maxRecDepth 100000 in
set_option maxHeartbeats 4000000 in
theorem fire_void {w : World} {B : Nat} (h : VAt w B) {b : Int} (hb : S10.InI b) (i : Int) : Calls Tryd.prog 8 #[Pw B, .agg #[.int .i64 b, .int .i64 i]] w fun e w' => e = .returned (.bool false) ∧ Below w.heap.size w w' := by
  have hi : i < 0 ∨ (((fun _ => [] : Int → List S10.Bk) b).length : Int) ≤ i := by simp; omega
  have HTI := Lib.hid (fun (W : World) => S10.timer_no (S10.rs_nil W) hb hi)
  have hB : Below w.heap.size w (w.alloc (.cells #[.int .i64 b, .int .i64 i] 28)) := (Below.refl _ _).alloc (Nat.le_refl _) _
  have hnew := heap_alloc_new w (.cells #[.int .i64 b, .int .i64 i] 28)
  have p0 := cell_row hnew 0; have p1 := cell_row hnew 1
  have hv := h.new hB
  obtain ⟨B0, hB0⟩ : ∃ B0, B0 = w.heap.size := ⟨_, rfl⟩
  rw [← hB0] at p0 p1
  simp only [List.getElem?_toArray, List.getElem?_cons_zero, List.getElem?_cons_succ] at p0 p1
  have HB := Lib.hid hB; have HB0 := Lib.hid hB0; have HV := Lib.hid hv
  clear h hB hnew hB0 hv hi
  go_enter Tryd.func8, Tryd.ntmps8
  go_upto_region 3 with (fail)
  rw [← HB0.out]
  generalize w.alloc (.cells #[.int .i64 b, .int .i64 i] 28) = wb at *
  have HC : Hid (∀ W, Below wb.heap.size wb W → W.cell? ⟨B, 1, none⟩ = some (.pointer none) ∧ W.cell? ⟨B, 4, none⟩ = some (.pointer none) ∧ W.cell? ⟨B0, 0, none⟩ = some (.int .i64 b) ∧ W.cell? ⟨B0, 1, none⟩ = some (.int .i64 i)) := Lib.hid (fun W q => ⟨(HV.out.new q).c1, (HV.out.new q).c4, bcell q p0, bcell q p1⟩)
  have R0 : Hid (Below wb.heap.size wb wb.drew) := Lib.hid ((Below.refl _ _).drew)
  clear HV HB0 p0 p1
  refine wp_region_held_drew (S := fun w' => w'.cell? ⟨B, 1, none⟩ = some (.pointer none) ∧ w'.cell? ⟨B, 4, none⟩ = some (.pointer none) ∧ w'.cell? ⟨B0, 0, none⟩ = some (.int .i64 b) ∧ w'.cell? ⟨B0, 1, none⟩ = some (.int .i64 i)) (by kernel_rfl) ?_ (fun hHeld => ?_)
  · exact HC.out _ R0.out
  refine wpAnyH_take (i := 0) (oi := ({ dst := some 10, op := Op.move (Operand.tmp 0), type := 31, pos := "worlds.go:85", after := #[], guard := none } : Oper)) (v := ?vax1) rfl (by kernel_rfl) (by kernel_rfl) (by kernel_rfl) (fun _ _ _ h => h) (Or.inl ⟨by rfl, fun w hSw => ?hyax1⟩) (by assumption) ?rax1
  case hyax1 => (try dsimp only at hSw); go_simp; (try with_reducible rfl)
  (try simp only [Act.put, List.setIfInBounds_toArray, List.set_cons_zero, List.set_cons_succ])
  refine wpAnyH_take (i := 1) (oi := ({ dst := some 11, op := Op.nilCheck (Operand.tmp 10), type := 0, pos := "worlds.go:85", after := #[{ on := 0, ground := Ground.data }], guard := none } : Oper)) (v := ?vax2) rfl (by kernel_rfl) (by kernel_rfl) (by kernel_rfl) (fun _ _ _ h => h) (Or.inl ⟨by rfl, fun w hSw => ?hyax2⟩) (by assumption) ?rax2
  case hyax2 => (try dsimp only at hSw); go_simp; (try with_reducible rfl)
  (try simp only [Act.put, List.setIfInBounds_toArray, List.set_cons_zero, List.set_cons_succ])
  refine wpAnyH_take (i := 2) (oi := ({ dst := some 12, op := Op.fieldAddr 43 (Operand.tmp 11) 4, type := 0, pos := "worlds.go:85", after := #[{ on := 1, ground := Ground.data }], guard := none } : Oper)) (v := ?vax3) rfl (by kernel_rfl) (by kernel_rfl) (by kernel_rfl) (fun _ _ _ h => h) (Or.inl ⟨by rfl, fun w hSw => ?hyax3⟩) (by assumption) ?rax3
  case hyax3 => (try dsimp only at hSw); go_simp; (try with_reducible rfl)
  (try simp only [Act.put, List.setIfInBounds_toArray, List.set_cons_zero, List.set_cons_succ])
  refine wpAnyH_take (i := 3) (oi := ({ dst := some 13, op := Op.load 39 (Operand.tmp 12), type := 39, pos := "worlds.go:85", after := #[{ on := 2, ground := Ground.data }], guard := none } : Oper)) (v := ?vax4) rfl (by kernel_rfl) (by kernel_rfl) (by kernel_rfl) (fun _ _ _ h => h) (Or.inl ⟨by rfl, fun w hSw => ?hyax4⟩) (by assumption) ?rax4
  case hyax4 => (try dsimp only at hSw); go_simp; (try with_reducible rfl)
  (try simp only [Act.put, List.setIfInBounds_toArray, List.set_cons_zero, List.set_cons_succ])
  refine wpAnyH_take (i := 4) (oi := ({ dst := some 14, op := Op.load 28 (Operand.tmp 3), type := 28, pos := "worlds.go:85", after := #[], guard := none } : Oper)) (v := ?vax5) rfl (by kernel_rfl) (by kernel_rfl) (by kernel_rfl) (fun _ _ _ h => h) (Or.inl ⟨by rfl, fun w hSw => ?hyax5⟩) (by assumption) ?rax5
  case hyax5 => (try dsimp only at hSw); go_simp; (try with_reducible rfl)
  (try simp only [Act.put, List.setIfInBounds_toArray, List.set_cons_zero, List.set_cons_succ])
  refine wpAnyH_take (i := 6) (oi := ({ dst := some 16, op := Op.move (Operand.tmp 0), type := 31, pos := "worlds.go:85", after := #[], guard := none } : Oper)) (v := ?vax6) rfl (by kernel_rfl) (by kernel_rfl) (by kernel_rfl) (fun _ _ _ h => h) (Or.inl ⟨by rfl, fun w hSw => ?hyax6⟩) (by assumption) ?rax6
  case hyax6 => (try dsimp only at hSw); go_simp; (try with_reducible rfl)
  (try simp only [Act.put, List.setIfInBounds_toArray, List.set_cons_zero, List.set_cons_succ])
  refine wpAnyH_take (i := 7) (oi := ({ dst := some 17, op := Op.nilCheck (Operand.tmp 16), type := 0, pos := "worlds.go:85", after := #[{ on := 6, ground := Ground.data }], guard := none } : Oper)) (v := ?vax7) rfl (by kernel_rfl) (by kernel_rfl) (by kernel_rfl) (fun _ _ _ h => h) (Or.inl ⟨by rfl, fun w hSw => ?hyax7⟩) (by assumption) ?rax7
  case hyax7 => (try dsimp only at hSw); go_simp; (try with_reducible rfl)
  (try simp only [Act.put, List.setIfInBounds_toArray, List.set_cons_zero, List.set_cons_succ])
  refine wpAnyH_take (i := 8) (oi := ({ dst := some 18, op := Op.fieldAddr 43 (Operand.tmp 17) 1, type := 0, pos := "worlds.go:85", after := #[{ on := 7, ground := Ground.data }], guard := none } : Oper)) (v := ?vax8) rfl (by kernel_rfl) (by kernel_rfl) (by kernel_rfl) (fun _ _ _ h => h) (Or.inl ⟨by rfl, fun w hSw => ?hyax8⟩) (by assumption) ?rax8
  case hyax8 => (try dsimp only at hSw); go_simp; (try with_reducible rfl)
  (try simp only [Act.put, List.setIfInBounds_toArray, List.set_cons_zero, List.set_cons_succ])
  refine wpAnyH_take (i := 9) (oi := ({ dst := some 19, op := Op.load 36 (Operand.tmp 18), type := 36, pos := "worlds.go:85", after := #[{ on := 8, ground := Ground.data }], guard := none } : Oper)) (v := ?vax9) rfl (by kernel_rfl) (by kernel_rfl) (by kernel_rfl) (fun _ _ _ h => h) (Or.inl ⟨by rfl, fun w hSw => ?hyax9⟩) (by assumption) ?rax9
  case hyax9 => (try dsimp only at hSw); go_simp; (try with_reducible rfl)
  (try simp only [Act.put, List.setIfInBounds_toArray, List.set_cons_zero, List.set_cons_succ])
  refine wpAnyH_ready (rs := [5, 11]) (by kernel_rfl) (by simp) ?_
  refine AllReadyH.cons (o := ({ dst := some 15, op := Op.call { callee := Callee.value (Operand.func 18), args := #[Operand.tmp 13, Operand.tmp 14], argTypes := #[39, 28] }, type := 65, pos := "worlds.go:85", after := #[{ on := 3, ground := Ground.data }, { on := 4, ground := Ground.data }], guard := none } : Oper)) rfl (fun Kq hKq => ?_) ?_
  · go_simp
    (refine (HTI.out _).mono ?_; rintro e w1 ⟨rfl, hb1⟩)
    have R1 : Hid (Below wb.heap.size wb w1) := Lib.hid (R0.out.trans (hb1.mono R0.out.size))
    clear hb1
    refine hKq.out _ _ ?_ (fun hHeld => ?_)
    · exact HC.out _ R1.out
    clear hKq Kq
    (try simp only [Act.put, List.setIfInBounds_toArray, List.set_cons_zero, List.set_cons_succ])
    refine wpAnyH_ready (rs := [10, 11]) (by kernel_rfl) (by simp) ?_
    refine AllReadyH.cons (o := ({ dst := some 20, op := Op.call { callee := Callee.value (Operand.func 19), args := #[Operand.tmp 19], argTypes := #[36] }, type := 24, pos := "worlds.go:85", after := #[{ on := 9, ground := Ground.data }, { on := 5, ground := Ground.chain }], guard := none } : Oper)) rfl (fun Kq hKq => ?_) ?_
    · go_simp
      (refine (S3.now_nil _).mono ?_; rintro e w2 ⟨rfl, rfl⟩)
      refine hKq.out _ _ ?_ (fun hHeld => ?_)
      · exact HC.out _ R1.out
      clear hKq Kq
      (try simp only [Act.put, List.setIfInBounds_toArray, List.set_cons_zero, List.set_cons_succ])
      refine wpAnyH_ready (rs := [11]) (by kernel_rfl) (by simp) ?_
      refine AllReadyH.cons (o := ({ dst := some 5, op := Op.alloc 65, type := 0, pos := "worlds.go:85", after := #[], guard := none } : Oper)) rfl (fun Kq hKq => ?_) AllReadyH.nil
      go_simp
      have R3 : Hid (Below wb.heap.size wb (w1.alloc (.cells #[.int .u64 0, .int .u64 0] 65))) := Lib.hid ((R1.out.alloc R1.out.size _))
      have TZ3 : Hid (TmIn (w1.alloc (.cells #[.int .u64 0, .int .u64 0] 65)) w1.heap.size 0 0) := Lib.hid (TmIn.made w1 0 0)
      generalize w1.alloc (.cells #[.int .u64 0, .int .u64 0] 65) = w3 at *
      refine hKq.out _ _ ?_ (fun hHeld => ?_)
      · exact HC.out _ R3.out
      clear hKq Kq
      (try simp only [Act.put, List.setIfInBounds_toArray, List.set_cons_zero, List.set_cons_succ])
      refine wpAnyH_ready (rs := [12]) (by kernel_rfl) (by simp) ?_
      refine AllReadyH.cons (o := ({ dst := none, op := Op.store 65 (Operand.tmp 5) (Operand.tmp 15), type := 0, pos := "worlds.go:85", after := #[{ on := 11, ground := Ground.data }, { on := 5, ground := Ground.data }, { on := 10, ground := Ground.chain }, { on := 0, ground := Ground.phase }, { on := 1, ground := Ground.phase }, { on := 2, ground := Ground.phase }, { on := 3, ground := Ground.phase }, { on := 4, ground := Ground.phase }, { on := 5, ground := Ground.phase }, { on := 6, ground := Ground.textOnly Departure.lateStores }, { on := 7, ground := Ground.textOnly Departure.lateStores }, { on := 8, ground := Ground.textOnly Departure.lateStores }, { on := 9, ground := Ground.textOnly Departure.lateStores }, { on := 10, ground := Ground.textOnly Departure.lateStoresUnsure }, { on := 11, ground := Ground.phase }], guard := none } : Oper)) rfl (fun Kq hKq => ?_) AllReadyH.nil
      have z0 := TZ3.out.c0; have z1 := TZ3.out.c1; have f0 := TZ3.out.z0; have f1 := TZ3.out.z1
      go_simp
      have hle : wb.heap.size ≤ w1.heap.size := by have := R1.out.size; omega
      have R4 : Hid (Below wb.heap.size wb ((w3.setCell ⟨w1.heap.size, 0, none⟩ (.int .u64 0)).setCell ⟨w1.heap.size, 1, none⟩ (.int .u64 0))) := Lib.hid ((R3.out.setCell (p := ⟨w1.heap.size, 0, none⟩) hle _).setCell (p := ⟨w1.heap.size, 1, none⟩) hle _)
      have TZ4 : Hid (TmIn ((w3.setCell ⟨w1.heap.size, 0, none⟩ (.int .u64 0)).setCell ⟨w1.heap.size, 1, none⟩ (.int .u64 0)) w1.heap.size 0 0) := Lib.hid (TZ3.out.put 0 0)
      clear z0 z1 f0 f1
      generalize ((w3.setCell ⟨w1.heap.size, 0, none⟩ (.int .u64 0)).setCell ⟨w1.heap.size, 1, none⟩ (.int .u64 0)) = w4 at *
      refine hKq.out _ _ ?_ (fun hHeld => ?_)
      · exact HC.out _ R4.out
      clear hKq Kq
      (try simp only [Act.put, List.setIfInBounds_toArray, List.set_cons_zero, List.set_cons_succ])
      refine wpAnyH_take (i := 13) (oi := ({ dst := some 6, op := Op.assign (Operand.tmp 20), type := 24, pos := "worlds.go:85", after := #[{ on := 10, ground := Ground.data }, { on := 12, ground := Ground.chain }, { on := 0, ground := Ground.phase }, { on := 1, ground := Ground.phase }, { on := 2, ground := Ground.phase }, { on := 3, ground := Ground.phase }, { on := 4, ground := Ground.phase }, { on := 5, ground := Ground.phase }, { on := 6, ground := Ground.phase }, { on := 7, ground := Ground.phase }, { on := 8, ground := Ground.phase }, { on := 9, ground := Ground.phase }, { on := 10, ground := Ground.phase }, { on := 11, ground := Ground.phase }, { on := 12, ground := Ground.phase }], guard := none } : Oper)) (v := ?vax10) rfl (by kernel_rfl) (by kernel_rfl) (by kernel_rfl) (fun _ _ _ h => h) (Or.inl ⟨by rfl, fun w hSw => ?hyax10⟩) (by assumption) ?rax10
      case hyax10 => (try dsimp only at hSw); go_simp; (try with_reducible rfl)
      (try simp only [Act.put, List.setIfInBounds_toArray, List.set_cons_zero, List.set_cons_succ])
      refine wpAnyH_done (by kernel_rfl) ?_ _
      clear hHeld hle
      have z0 := TZ4.out.c0; have z1 := TZ4.out.c1
      go_wp2_with (go_at_call 20; refine (due_int 0 0 0 _).mono ?_; rintro e w9 ⟨rfl, hb9⟩)
      go_ret
      exact ⟨rfl, HB.out.trans (((R4.out).trans (hb9.mono R4.out.size)).mono HB.out.size)⟩
    refine AllReadyH.cons (o := ({ dst := some 5, op := Op.alloc 65, type := 0, pos := "worlds.go:85", after := #[], guard := none } : Oper)) rfl (fun Kq hKq => ?_) AllReadyH.nil
    go_simp
    have R2 : Hid (Below wb.heap.size wb (w1.alloc (.cells #[.int .u64 0, .int .u64 0] 65))) := Lib.hid ((R1.out.alloc R1.out.size _))
    have TZ2 : Hid (TmIn (w1.alloc (.cells #[.int .u64 0, .int .u64 0] 65)) w1.heap.size 0 0) := Lib.hid (TmIn.made w1 0 0)
    generalize w1.alloc (.cells #[.int .u64 0, .int .u64 0] 65) = w2 at *
    refine hKq.out _ _ ?_ (fun hHeld => ?_)
    · exact HC.out _ R2.out
    clear hKq Kq
    (try simp only [Act.put, List.setIfInBounds_toArray, List.set_cons_zero, List.set_cons_succ])
    refine wpAnyH_ready (rs := [10]) (by kernel_rfl) (by simp) ?_
    refine AllReadyH.cons (o := ({ dst := some 20, op := Op.call { callee := Callee.value (Operand.func 19), args := #[Operand.tmp 19], argTypes := #[36] }, type := 24, pos := "worlds.go:85", after := #[{ on := 9, ground := Ground.data }, { on := 5, ground := Ground.chain }], guard := none } : Oper)) rfl (fun Kq hKq => ?_) AllReadyH.nil
    go_simp
    (refine (S3.now_nil _).mono ?_; rintro e w3 ⟨rfl, rfl⟩)
    refine hKq.out _ _ ?_ (fun hHeld => ?_)
    · exact HC.out _ R2.out
    clear hKq Kq
    (try simp only [Act.put, List.setIfInBounds_toArray, List.set_cons_zero, List.set_cons_succ])
    refine wpAnyH_ready (rs := [12]) (by kernel_rfl) (by simp) ?_
    refine AllReadyH.cons (o := ({ dst := none, op := Op.store 65 (Operand.tmp 5) (Operand.tmp 15), type := 0, pos := "worlds.go:85", after := #[{ on := 11, ground := Ground.data }, { on := 5, ground := Ground.data }, { on := 10, ground := Ground.chain }, { on := 0, ground := Ground.phase }, { on := 1, ground := Ground.phase }, { on := 2, ground := Ground.phase }, { on := 3, ground := Ground.phase }, { on := 4, ground := Ground.phase }, { on := 5, ground := Ground.phase }, { on := 6, ground := Ground.textOnly Departure.lateStores }, { on := 7, ground := Ground.textOnly Departure.lateStores }, { on := 8, ground := Ground.textOnly Departure.lateStores }, { on := 9, ground := Ground.textOnly Departure.lateStores }, { on := 10, ground := Ground.textOnly Departure.lateStoresUnsure }, { on := 11, ground := Ground.phase }], guard := none } : Oper)) rfl (fun Kq hKq => ?_) AllReadyH.nil
    have z0 := TZ2.out.c0; have z1 := TZ2.out.c1; have f0 := TZ2.out.z0; have f1 := TZ2.out.z1
    go_simp
    have hle : wb.heap.size ≤ w1.heap.size := by have := R1.out.size; omega
    have R4 : Hid (Below wb.heap.size wb ((w2.setCell ⟨w1.heap.size, 0, none⟩ (.int .u64 0)).setCell ⟨w1.heap.size, 1, none⟩ (.int .u64 0))) := Lib.hid ((R2.out.setCell (p := ⟨w1.heap.size, 0, none⟩) hle _).setCell (p := ⟨w1.heap.size, 1, none⟩) hle _)
    have TZ4 : Hid (TmIn ((w2.setCell ⟨w1.heap.size, 0, none⟩ (.int .u64 0)).setCell ⟨w1.heap.size, 1, none⟩ (.int .u64 0)) w1.heap.size 0 0) := Lib.hid (TZ2.out.put 0 0)
    clear z0 z1 f0 f1
    generalize ((w2.setCell ⟨w1.heap.size, 0, none⟩ (.int .u64 0)).setCell ⟨w1.heap.size, 1, none⟩ (.int .u64 0)) = w4 at *
    refine hKq.out _ _ ?_ (fun hHeld => ?_)
    · exact HC.out _ R4.out
    clear hKq Kq
    (try simp only [Act.put, List.setIfInBounds_toArray, List.set_cons_zero, List.set_cons_succ])
    refine wpAnyH_take (i := 13) (oi := ({ dst := some 6, op := Op.assign (Operand.tmp 20), type := 24, pos := "worlds.go:85", after := #[{ on := 10, ground := Ground.data }, { on := 12, ground := Ground.chain }, { on := 0, ground := Ground.phase }, { on := 1, ground := Ground.phase }, { on := 2, ground := Ground.phase }, { on := 3, ground := Ground.phase }, { on := 4, ground := Ground.phase }, { on := 5, ground := Ground.phase }, { on := 6, ground := Ground.phase }, { on := 7, ground := Ground.phase }, { on := 8, ground := Ground.phase }, { on := 9, ground := Ground.phase }, { on := 10, ground := Ground.phase }, { on := 11, ground := Ground.phase }, { on := 12, ground := Ground.phase }], guard := none } : Oper)) (v := ?vax11) rfl (by kernel_rfl) (by kernel_rfl) (by kernel_rfl) (fun _ _ _ h => h) (Or.inl ⟨by rfl, fun w hSw => ?hyax11⟩) (by assumption) ?rax11
    case hyax11 => (try dsimp only at hSw); go_simp; (try with_reducible rfl)
    (try simp only [Act.put, List.setIfInBounds_toArray, List.set_cons_zero, List.set_cons_succ])
    refine wpAnyH_done (by kernel_rfl) ?_ _
    clear hHeld hle
    have z0 := TZ4.out.c0; have z1 := TZ4.out.c1
    go_wp2_with (go_at_call 20; refine (due_int 0 0 0 _).mono ?_; rintro e w9 ⟨rfl, hb9⟩)
    go_ret
    exact ⟨rfl, HB.out.trans (((R4.out).trans (hb9.mono R4.out.size)).mono HB.out.size)⟩
  refine AllReadyH.cons (o := ({ dst := some 5, op := Op.alloc 65, type := 0, pos := "worlds.go:85", after := #[], guard := none } : Oper)) rfl (fun Kq hKq => ?_) AllReadyH.nil
  go_simp
  have R1 : Hid (Below wb.heap.size wb ((wb.alloc (.cells #[.int .u64 0, .int .u64 0] 65)).drew)) := Lib.hid (((Below.refl _ _).alloc (Nat.le_refl _) _).drew)
  have TZ1 : Hid (TmIn ((wb.alloc (.cells #[.int .u64 0, .int .u64 0] 65)).drew) wb.heap.size 0 0) := Lib.hid (TmIn.made wb 0 0)
  generalize (wb.alloc (.cells #[.int .u64 0, .int .u64 0] 65)).drew = w1 at *
  refine hKq.out _ _ ?_ (fun hHeld => ?_)
  · exact HC.out _ R1.out
  clear hKq Kq
  (try simp only [Act.put, List.setIfInBounds_toArray, List.set_cons_zero, List.set_cons_succ])
  refine wpAnyH_ready (rs := [5]) (by kernel_rfl) (by simp) ?_
  refine AllReadyH.cons (o := ({ dst := some 15, op := Op.call { callee := Callee.value (Operand.func 18), args := #[Operand.tmp 13, Operand.tmp 14], argTypes := #[39, 28] }, type := 65, pos := "worlds.go:85", after := #[{ on := 3, ground := Ground.data }, { on := 4, ground := Ground.data }], guard := none } : Oper)) rfl (fun Kq hKq => ?_) AllReadyH.nil
  go_simp
  (refine (HTI.out _).mono ?_; rintro e w2 ⟨rfl, hb2⟩)
  have R2 : Hid (Below wb.heap.size wb w2) := Lib.hid (R1.out.trans (hb2.mono R1.out.size))
  have TZ2 := Lib.hid (TZ1.out.new hb2)
  clear hb2
  refine hKq.out _ _ ?_ (fun hHeld => ?_)
  · exact HC.out _ R2.out
  clear hKq Kq
  (try simp only [Act.put, List.setIfInBounds_toArray, List.set_cons_zero, List.set_cons_succ])
  refine wpAnyH_ready (rs := [10]) (by kernel_rfl) (by simp) ?_
  refine AllReadyH.cons (o := ({ dst := some 20, op := Op.call { callee := Callee.value (Operand.func 19), args := #[Operand.tmp 19], argTypes := #[36] }, type := 24, pos := "worlds.go:85", after := #[{ on := 9, ground := Ground.data }, { on := 5, ground := Ground.chain }], guard := none } : Oper)) rfl (fun Kq hKq => ?_) AllReadyH.nil
  go_simp
  (refine (S3.now_nil _).mono ?_; rintro e w3 ⟨rfl, rfl⟩)
  refine hKq.out _ _ ?_ (fun hHeld => ?_)
  · exact HC.out _ R2.out
  clear hKq Kq
  (try simp only [Act.put, List.setIfInBounds_toArray, List.set_cons_zero, List.set_cons_succ])
  refine wpAnyH_ready (rs := [12]) (by kernel_rfl) (by simp) ?_
  refine AllReadyH.cons (o := ({ dst := none, op := Op.store 65 (Operand.tmp 5) (Operand.tmp 15), type := 0, pos := "worlds.go:85", after := #[{ on := 11, ground := Ground.data }, { on := 5, ground := Ground.data }, { on := 10, ground := Ground.chain }, { on := 0, ground := Ground.phase }, { on := 1, ground := Ground.phase }, { on := 2, ground := Ground.phase }, { on := 3, ground := Ground.phase }, { on := 4, ground := Ground.phase }, { on := 5, ground := Ground.phase }, { on := 6, ground := Ground.textOnly Departure.lateStores }, { on := 7, ground := Ground.textOnly Departure.lateStores }, { on := 8, ground := Ground.textOnly Departure.lateStores }, { on := 9, ground := Ground.textOnly Departure.lateStores }, { on := 10, ground := Ground.textOnly Departure.lateStoresUnsure }, { on := 11, ground := Ground.phase }], guard := none } : Oper)) rfl (fun Kq hKq => ?_) AllReadyH.nil
  have z0 := TZ2.out.c0; have z1 := TZ2.out.c1; have f0 := TZ2.out.z0; have f1 := TZ2.out.z1
  go_simp
  have hle : wb.heap.size ≤ wb.heap.size := by have := Nat.le_refl wb.heap.size; omega
  have R4 : Hid (Below wb.heap.size wb ((w2.setCell ⟨wb.heap.size, 0, none⟩ (.int .u64 0)).setCell ⟨wb.heap.size, 1, none⟩ (.int .u64 0))) := Lib.hid ((R2.out.setCell (p := ⟨wb.heap.size, 0, none⟩) hle _).setCell (p := ⟨wb.heap.size, 1, none⟩) hle _)
  have TZ4 : Hid (TmIn ((w2.setCell ⟨wb.heap.size, 0, none⟩ (.int .u64 0)).setCell ⟨wb.heap.size, 1, none⟩ (.int .u64 0)) wb.heap.size 0 0) := Lib.hid (TZ2.out.put 0 0)
  clear z0 z1 f0 f1
  generalize ((w2.setCell ⟨wb.heap.size, 0, none⟩ (.int .u64 0)).setCell ⟨wb.heap.size, 1, none⟩ (.int .u64 0)) = w4 at *
  refine hKq.out _ _ ?_ (fun hHeld => ?_)
  · exact HC.out _ R4.out
  clear hKq Kq
  (try simp only [Act.put, List.setIfInBounds_toArray, List.set_cons_zero, List.set_cons_succ])
  refine wpAnyH_take (i := 13) (oi := ({ dst := some 6, op := Op.assign (Operand.tmp 20), type := 24, pos := "worlds.go:85", after := #[{ on := 10, ground := Ground.data }, { on := 12, ground := Ground.chain }, { on := 0, ground := Ground.phase }, { on := 1, ground := Ground.phase }, { on := 2, ground := Ground.phase }, { on := 3, ground := Ground.phase }, { on := 4, ground := Ground.phase }, { on := 5, ground := Ground.phase }, { on := 6, ground := Ground.phase }, { on := 7, ground := Ground.phase }, { on := 8, ground := Ground.phase }, { on := 9, ground := Ground.phase }, { on := 10, ground := Ground.phase }, { on := 11, ground := Ground.phase }, { on := 12, ground := Ground.phase }], guard := none } : Oper)) (v := ?vax12) rfl (by kernel_rfl) (by kernel_rfl) (by kernel_rfl) (fun _ _ _ h => h) (Or.inl ⟨by rfl, fun w hSw => ?hyax12⟩) (by assumption) ?rax12
  case hyax12 => (try dsimp only at hSw); go_simp; (try with_reducible rfl)
  (try simp only [Act.put, List.setIfInBounds_toArray, List.set_cons_zero, List.set_cons_succ])
  refine wpAnyH_done (by kernel_rfl) ?_ _
  clear hHeld hle
  have z0 := TZ4.out.c0; have z1 := TZ4.out.c1
  go_wp2_with (go_at_call 20; refine (due_int 0 0 0 _).mono ?_; rintro e w9 ⟨rfl, hb9⟩)
  go_ret
  exact ⟨rfl, HB.out.trans (((R4.out).trans (hb9.mono R4.out.size)).mono HB.out.size)⟩
end Go.Proofs.YtbibinffdcjgfaaDoor
namespace Go.Proofs.YtbibinffdcjgfaaDoor
open Go.Proofs.YtbibinffdcjgfaaDoor.S12 Go.Proofs.YtbibinffdcjgfaaDoor.S11
open Go.RowKit

set_option maxRecDepth 100000 in
set_option maxHeartbeats 4000000 in
theorem law_void (K v pk o tk t b i left : Int) (nt : Nat) (a to_ : Int) (hb : S10.InI b) (hl : -9223372036854775808 ≤ left ∧ left ≤ 9223372036854775807) (w : World) (hT : Tab w) :
    Calls Tryd.prog 3 #[.agg #[.int .u8 K, .int .i64 t, .int .u8 (nt : Int), .int .u32 a, .int .u64 v, .int .i64 pk, .int .i64 b, .int .i64 i, .int .i64 o, .int .u32 to_, .int .u64 tk], .int .i64 left] w fun e w' => e = .returned (.bool true) ∧ Below w.heap.size w w' := by
  have hB : Below w.heap.size w (w.alloc (.cells #[.int .u8 K, .int .i64 t, .int .u8 (nt : Int), .int .u32 a, .int .u64 v, .int .i64 pk, .int .i64 b, .int .i64 i, .int .i64 o, .int .u32 to_, .int .u64 tk] 30)) := (Below.refl _ _).alloc (Nat.le_refl _) _
  have hnew := heap_alloc_new w (.cells #[.int .u8 K, .int .i64 t, .int .u8 (nt : Int), .int .u32 a, .int .u64 v, .int .i64 pk, .int .i64 b, .int .i64 i, .int .i64 o, .int .u32 to_, .int .u64 tk] 30)
  obtain ⟨B0, hB0⟩ : ∃ B0, B0 = w.heap.size := ⟨_, rfl⟩
  have p1 := cell_row hnew 1; have p2 := cell_row hnew 2; have p3 := cell_row hnew 3; have p6 := cell_row hnew 6; have p7 := cell_row hnew 7; have p8 := cell_row hnew 8; have p9 := cell_row hnew 9
  rw [← hB0] at p1 p2 p3 p6 p7 p8 p9
  simp only [List.getElem?_toArray, List.getElem?_cons_zero, List.getElem?_cons_succ] at p1 p2 p3 p6 p7 p8 p9
  have HB := Lib.hid hB; have HB0 := Lib.hid hB0; have HT := Lib.hid (hT.below hB hT.1); have HIB := Lib.hid hb; have HTL := Lib.hid hT.1; have HL := Lib.hid hl
  clear hB hnew hB0 hT hb hl
  go_enter Tryd.func3, Tryd.ntmps3
  go_upto_region 1 with (fail)
  rw [← HB0.out]
  generalize w.alloc (.cells #[.int .u8 K, .int .i64 t, .int .u8 (nt : Int), .int .u32 a, .int .u64 v, .int .i64 pk, .int .i64 b, .int .i64 i, .int .i64 o, .int .u32 to_, .int .u64 tk] 30) = wa at *
  have HP : Hid (∀ W, Below wa.heap.size wa W → W.cell? ⟨B0, 1, none⟩ = some (.int .i64 t) ∧ W.cell? ⟨B0, 2, none⟩ = some (.int .u8 (nt : Int)) ∧ W.cell? ⟨B0, 3, none⟩ = some (.int .u32 a) ∧ W.cell? ⟨B0, 6, none⟩ = some (.int .i64 b) ∧ W.cell? ⟨B0, 7, none⟩ = some (.int .i64 i) ∧ W.cell? ⟨B0, 8, none⟩ = some (.int .i64 o) ∧ W.cell? ⟨B0, 9, none⟩ = some (.int .u32 to_)) := Lib.hid (fun W q => ⟨bcell q p1, bcell q p2, bcell q p3, bcell q p6, bcell q p7, bcell q p8, bcell q p9⟩)
  go_upto_region 4 with (first
    | (go_at_call 5; refine (note_nil _ _ _ _).mono ?_; rintro e w1 ⟨rfl, rfl⟩)
    | (go_at_call 6; refine (noteOf_nil _ _ _ _ _ _).mono ?_; rintro e w1 ⟨rfl, rfl⟩))
  clear p1 p2 p3 p6 p7 p8 p9
  go_upto_region 5 with (fail)
  have hV : VAt (wa.alloc (.cells Tryd.zeroCells43 43)) wa.heap.size := heap_alloc_new _ _
  have hb1 : Below wa.heap.size wa (wa.alloc (.cells Tryd.zeroCells43 43)) := (Below.refl _ _).alloc (Nat.le_refl _) _
  have HV := Lib.hid hV; have HB1 := Lib.hid hb1
  clear hV hb1
  generalize wa.alloc (.cells Tryd.zeroCells43 43) = wv at *
  obtain ⟨Bv, hBv⟩ : ∃ Bv, Bv = wa.heap.size := ⟨_, rfl⟩
  rw [← hBv] at HV ⊢
  obtain ⟨p1, p2, p3, p6, p7, p8, p9⟩ := HP.out _ HB1.out
  clear hBv
  go_upto_region 6 with (go_at_call 5; refine (note_void HV.out t a nt).mono ?_; rintro e w2 ⟨rfl, hb2⟩)
  have HV2 := Lib.hid (HV.out.new hb2); have HB2 := Lib.hid (HB1.out.trans (hb2.mono HB1.out.size))
  clear hb2 p1 p2 p3 p6 p7 p8 p9 HV HB1
  obtain ⟨p1, p2, p3, p6, p7, p8, p9⟩ := HP.out _ HB2.out
  go_upto_region 8 with (first
    | (go_at_call 7; refine (steps_void HV3.out).mono ?_; rintro e w4 ⟨rfl, hb4⟩; have HV4 := Lib.hid (HV3.out.new hb4); have HB4 := Lib.hid (HB3.out.trans (hb4.mono HB3.out.size)); clear hb4 p1 p2 p3 p6 p7 p8 p9; obtain ⟨p1, p2, p3, p6, p7, p8, p9⟩ := HP.out _ HB4.out)
    | (go_at_call 8; refine (fire_void HV4.out HIB.out i).mono ?_; rintro e w5 ⟨rfl, hb5⟩; have HV5 := Lib.hid (HV4.out.new hb5); have HB5 := Lib.hid (HB4.out.trans (hb5.mono HB4.out.size)); have c5 := HV5.out.c5; clear hb5)
    | (go_at_call 9; refine (S11.count_nil _).mono ?_; rintro e w6 ⟨rfl, rfl⟩)
    | (go_at_call 7; refine (steps_nil _).mono ?_; rintro e w3 ⟨rfl, rfl⟩)
    | (go_at_call 8; refine (fire_nil b i _).mono ?_; rintro e w3 ⟨rfl, hb3⟩; have HV3 := Lib.hid (HV2.out.new hb3); have HB3 := Lib.hid (HB2.out.trans (hb3.mono HB2.out.size)); clear hb3 p1 p2 p3 p6 p7 p8 p9; obtain ⟨p1, p2, p3, p6, p7, p8, p9⟩ := HP.out _ HB3.out))
  clear HV2 HV3 HV4 HV5 HB2 HB3 HB4 c5 p1 p2 p3 p6 p7 p8 p9 HP HIB
  go_upto_region 10 with (go_at_call 10; refine (begin_nil _ _).mono ?_; rintro e w7 ⟨rfl, rfl⟩)
  go_upto_region 11 with (fail)
  have hs : SpAt 49 (w5.alloc (.cells #[.int .i64 left] 49)) w5.heap.size left := heap_alloc_new _ _
  have hq : Below wa.heap.size wa (w5.alloc (.cells #[.int .i64 left] 49)) := HB5.out.alloc HB5.out.size _
  have HL1 := Lib.hid HB5.out.size
  have HS := Lib.hid hs; have HQ := Lib.hid hq
  clear hs hq HB5
  generalize w5.alloc (.cells #[.int .i64 left] 49) = wy at *
  generalize w5.heap.size = B1 at *
  go_upto_region 12 with (fail)
  have hr : SpAt 50 (wy.alloc (.cells #[.int .i64 left] 50)) wy.heap.size left := heap_alloc_new _ _
  have hq : Below wa.heap.size wa (wy.alloc (.cells #[.int .i64 left] 50)) := HQ.out.alloc HQ.out.size _
  have hne : B1 < wy.heap.size := HS.out.lt
  have hs : SpAt 49 (wy.alloc (.cells #[.int .i64 left] 50)) B1 left := HS.out.new ((Below.refl _ wy).alloc (Nat.le_refl _) _)
  have HL2 := Lib.hid HQ.out.size; have HNE := Lib.hid hne; have HS2 := Lib.hid hs; have HR2 := Lib.hid hr; have HQ2 := Lib.hid hq
  clear hs hr hq hne HS HQ
  generalize wy.alloc (.cells #[.int .i64 left] 50) = wz at *
  generalize wy.heap.size = B2 at *
  by_cases h0 : 0 < left
  · have hsp := spin_yes HS2.out h0 HL.out.2
    have hrs : SpAt 50 (wz.setCell ⟨B1, 0, none⟩ (.int .i64 (left - 1))) B2 left := HR2.out.other (by have := HNE.out; omega)
    have hrp := rspin_yes hrs h0 HL.out.2
    have hs3 : SpAt 49 ((wz.setCell ⟨B1, 0, none⟩ (.int .i64 (left - 1))).setCell ⟨B2, 0, none⟩ (.int .i64 (left - 1))) B1 (left - 1) := (HS2.out.put (left - 1)).other (by have := HNE.out; omega)
    have hr3 := hrs.put (left - 1)
    have HQ3 : Hid (Below wa.heap.size wa ((wz.setCell ⟨B1, 0, none⟩ (.int .i64 (left - 1))).setCell ⟨B2, 0, none⟩ (.int .i64 (left - 1)))) := Lib.hid ((HQ2.out.setCell (p := ⟨B1, 0, none⟩) HL1.out _).setCell (p := ⟨B2, 0, none⟩) HL2.out _)
    have HSQ := Lib.hid hsp; have HRP := Lib.hid hrp; have HS3 := Lib.hid hs3
    have q0 := hs3.c0; have r0 := hr3.c0
    clear hsp hrs hrp hs3 hr3 HS2 HR2 HQ2 h0
    generalize hz3 : (wz.setCell ⟨B1, 0, none⟩ (.int .i64 (left - 1))).setCell ⟨B2, 0, none⟩ (.int .i64 (left - 1)) = w3' at *
    generalize hz2 : wz.setCell ⟨B1, 0, none⟩ (.int .i64 (left - 1)) = w2' at *
    clear hz3 hz2
    go_upto_region 14 with (first
      | (go_at_call 12; refine HRP.out.mono ?_; rintro e w10 ⟨rfl, rfl⟩)
      | (go_at_call 11; refine HSP.out.mono ?_; rintro e w11 ⟨rfl, rfl⟩)
      | (go_at_call 11; refine (spin_nil _).mono ?_; rintro e w7 ⟨rfl, rfl⟩; have HSP := HSQ))
    clear q0 r0 HSP HSQ HRP
    go_upto_region 15 with (go_at_call 10; refine (begin_none HS3.out).mono ?_; rintro e w8 ⟨rfl, rfl⟩)
    have HS4 : Hid (SpAt 49 (w10.setCell ⟨B1, 0, none⟩ (.int .i64 0)) B1 0) := Lib.hid (HS3.out.put 0)
    have HQ4 : Hid (Below wa.heap.size wa (w10.setCell ⟨B1, 0, none⟩ (.int .i64 0))) := Lib.hid (HQ3.out.setCell (p := ⟨B1, 0, none⟩) HL1.out _)
    generalize w10.setCell ⟨B1, 0, none⟩ (.int .i64 0) = w8 at *
    have hlv := lives_any _ (HT.out.below HQ4.out HT.out.1)
    have HLV := Lib.hid hlv
    have q0 := HS4.out.c0
    clear hlv HS3 HQ3
    go_wp2_with (first
      | (go_at_call 11; refine (spin_no HS4.out (Int.le_refl 0)).mono ?_; rintro e w9 ⟨rfl, rfl⟩)
      | (go_at_call 13; refine HLV.out.mono ?_; rintro e w9 ⟨rfl, hb9⟩))
    go_ret
    exact ⟨rfl, HB.out.trans ((HQ4.out.trans (hb9.mono HQ4.out.size)).mono HB.out.size)⟩
  · have hsp := spin_no HS2.out (by omega)
    have hrp := rspin_no HR2.out (by omega)
    have q0 := HS2.out.c0; have r0 := HR2.out.c0
    have HSQ := Lib.hid hsp; have HRP := Lib.hid hrp
    have HS3 := HS2; have HQ3 := HQ2
    clear hsp hrp h0
    go_upto_region 14 with (first
      | (go_at_call 12; refine HRP.out.mono ?_; rintro e w8 ⟨rfl, rfl⟩)
      | (go_at_call 11; refine HSP.out.mono ?_; rintro e w8 ⟨rfl, rfl⟩)
      | (go_at_call 11; refine (spin_nil _).mono ?_; rintro e w7 ⟨rfl, rfl⟩; have HSP := HSQ))
    clear q0 r0 HSP HSQ HRP
    go_upto_region 15 with (go_at_call 10; refine (begin_none HS3.out).mono ?_; rintro e w8 ⟨rfl, rfl⟩)
    have HS4 : Hid (SpAt 49 (wz.setCell ⟨B1, 0, none⟩ (.int .i64 0)) B1 0) := Lib.hid (HS3.out.put 0)
    have HQ4 : Hid (Below wa.heap.size wa (wz.setCell ⟨B1, 0, none⟩ (.int .i64 0))) := Lib.hid (HQ3.out.setCell (p := ⟨B1, 0, none⟩) HL1.out _)
    generalize wz.setCell ⟨B1, 0, none⟩ (.int .i64 0) = w8 at *
    have hlv := lives_any _ (HT.out.below HQ4.out HT.out.1)
    have HLV := Lib.hid hlv
    have q0 := HS4.out.c0
    clear hlv HS3 HQ3
    go_wp2_with (first
      | (go_at_call 11; refine (spin_no HS4.out (Int.le_refl 0)).mono ?_; rintro e w9 ⟨rfl, rfl⟩)
      | (go_at_call 13; refine HLV.out.mono ?_; rintro e w9 ⟨rfl, hb9⟩))
    go_ret
    exact ⟨rfl, HB.out.trans ((HQ4.out.trans (hb9.mono HQ4.out.size)).mono HB.out.size)⟩
end Go.Proofs.YtbibinffdcjgfaaDoor
