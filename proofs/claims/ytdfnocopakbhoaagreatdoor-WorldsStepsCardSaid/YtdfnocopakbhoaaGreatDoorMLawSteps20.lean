/- Texts of this seat, one behind the other. -/
import Derived.Test.YtdfnocopakbhoaaGreatDoorMLawSteps4
import Derived.Test.YtdfnocopakbhoaaGreatDoorMLawSteps8
import Derived.Test.YtdfnocopakbhoaaGreatDoorMLawSteps12
import Derived.Test.YtdfnocopakbhoaaGreatDoorMLawSteps13
import Derived.Test.YtdfnocopakbhoaaGreatDoorMLawSteps17
import Derived.Test.YtdfnocopakbhoaaGreatDoorMLawSteps19
namespace Go.Proofs.YtdfnocopakbhoaaGreatDoor.S12
open Go.Proofs.YtdfnocopakbhoaaGreatDoor Go.Proofs.YtdfnocopakbhoaaGreatDoor.S11
open Go.RowKit

/-- What stands in the cells of a new world. -/
def L02 : S2.LL := S2.newL (fun _ => 0) (fun _ => 2) 1
def cellsP (B : Nat) (M : Option Nat) (L : S2.LL) (n k a was is : Nat) : Part where
  ok w := S2.CellsAt w B M L n k a was is
  fp k := S2.Fp B M k
  lt w h k e := h.lt k e
  kept S w w' h t hs := h.kept (S := S) ⟨t.os, t.tape, t.output, t.size, t.block⟩ hs
def clockP (base B T most : Nat) (s : Value) (D : List Nat) : Part where
  ok w := S3.ClockAt w base B T most s D
  fp k := k = B ∨ s.ownBlock = some k
  lt w h k e := by
    rcases e with rfl | e
    · exact h.lt
    · exact (h.own.lt k e).2
  kept S w w' h t hs := h.kept (S := S) ⟨t.os, t.tape, t.output, t.size, t.block⟩ (hs B (.inl rfl)) (fun g e => hs g (.inr e))
def permitsP (B : Nat) (f : Nat → S4.Pk) (n kd pk : Int) : Part where
  ok w := S4.PkAt w B f n kd pk
  fp k := k = B
  lt w h k e := by rw [e]; exact h.lt
  kept S w w' h t hs := h.kept (T := S) t (hs B rfl)
def linksP (B : Nat) (S : S5.Lk) : Part where
  ok w := S5.Has w B S
  fp k := k = B
  lt w h k e := by rw [e]; exact h.lt
  kept S w w' h t hs := h.kept (T := S) ⟨t.os, t.tape, t.output, t.size, t.block⟩ (hs B rfl)
def tablesP (base : Nat) (own : Nat → Option S10.Role) (s : Value) (n : Nat) (M : Int → List S10.Bk) : Part where
  ok w := S10.St w base own s n M
  fp k := S10.Mine own k
  lt w h k e := (h.fp e).2
  kept S w w' h t hs := h.keep (S := S) ⟨t.os, t.tape, t.output, t.size, t.block⟩ hs
def notesP (T : Nat) (K : IntKind) (base p : Nat) (s : Value) (D : List S11.Nt) : Part where
  ok w := S11.LAt T K w base p s D
  fp k := k = p ∨ s.ownBlock = some k
  lt w h k e := by
    rcases e with rfl | e
    · exact h.lt
    · exact (h.own.lt k e).2
  kept S w w' h t hs := h.kept (S := S) t (hs p (.inl rfl)) (fun g e => hs g (.inr e))
section
variable {w w' : World} {base b0 i : Nat} {l : List Part}
theorem t_cells {B : Nat} {M : Option Nat} {L L' : S2.LL} {n k a was is n' k' a' was' is' : Nat} (h : Parts w base l) (hi : l[i]? = some (cellsP B M L n k a was is)) (hl : S2.Left w w' B M L' n' k' a' was' is') :
    ∃ M', Parts w' base (l.set i (cellsP B M' L' n' k' a' was' is')) ∧ Below base w w' := by
  obtain ⟨M', c, sm, t⟩ := hl
  refine ⟨M', h.turn hi (cellsP B M' L' n' k' a' was' is') c ⟨t.os, t.tape, t.output, t.size, t.block⟩ (fun k e => ?_)⟩
  rcases e with e | e
  · exact .inl (.inl e)
  · rcases sm k e with e | e
    · exact .inl (.inr e)
    · exact .inr e
theorem t_clock {B T most T' most' : Nat} {s s' : Value} {D D' : List Nat} (h : Parts w base l) (hi : l[i]? = some (clockP b0 B T most s D)) (c : S3.ClockAt w' b0 B T' most' s' D') (ho : ∀ g, s'.ownBlock = some g → s.ownBlock = some g ∨ w.heap.size ≤ g) (t : S3.Turns (fun k => k = B ∨ s.ownBlock = some k) w w') :
    Parts w' base (l.set i (clockP b0 B T' most' s' D')) ∧ Below base w w' := by
  refine h.turn hi (clockP b0 B T' most' s' D') c ⟨t.os, t.tape, t.output, t.size, t.block⟩ (fun k e => ?_)
  rcases e with e | e
  · exact .inl (.inl e)
  · rcases ho k e with e | e
    · exact .inl (.inr e)
    · exact .inr e
theorem t_permits {B : Nat} {f f' : Nat → S4.Pk} {n kd pk n' kd' pk' : Int} (h : Parts w base l) (hi : l[i]? = some (permitsP B f n kd pk)) (hp : S4.PSets w w' B f' n' kd' pk') :
    Parts w' base (l.set i (permitsP B f' n' kd' pk')) ∧ Below base w w' :=
  h.turn hi (permitsP B f' n' kd' pk') hp.1 hp.2.1 (fun k e => .inl e)
theorem t_links {B : Nat} {S S' : S5.Lk} (h : Parts w base l) (hi : l[i]? = some (linksP B S)) (hp : S5.Sets w w' B S') :
    Parts w' base (l.set i (linksP B S')) ∧ Below base w w' := by
  obtain ⟨c, t⟩ := hp
  exact h.turn hi (linksP B S') c ⟨t.os, t.tape, t.output, t.size, t.block⟩ (fun k e => .inl e)
theorem t_tables {own own' : Nat → Option S10.Role} {s : Value} {n n' : Nat} {M M' : Int → List S10.Bk} (h : Parts w base l) (hi : l[i]? = some (tablesP b0 own s n M)) (c : S10.St w' b0 own' s n' M') (t : S10.Turns (S10.Mine own) w w') (f : S10.Fresh own own' w) :
    Parts w' base (l.set i (tablesP b0 own' s n' M')) ∧ Below base w w' :=
  h.turn hi (tablesP b0 own' s n' M') c ⟨t.os, t.tape, t.output, t.size, t.block⟩ (fun k ⟨r, e⟩ => f k r e)
theorem t_notes {T p : Nat} {K : IntKind} {s : Value} {D F : List S11.Nt} (h : Parts w base l) (hi : l[i]? = some (notesP T K b0 p s D)) (hl : S11.Leaves T K w w' b0 p s F) :
    ∃ s', Parts w' base (l.set i (notesP T K b0 p s' F)) ∧ Below base w w' := by
  obtain ⟨s', c, ho, t⟩ := hl
  refine ⟨s', h.turn hi (notesP T K b0 p s' F) c t (fun k e => ?_)⟩
  rcases e with e | e
  · exact .inl (.inl e)
  · rcases ho with ho | ⟨g, ho, hg⟩
    · rw [ho] at e; exact .inl (.inr e)
    · rw [ho] at e; injection e with e; subst e; exact .inr hg
end
end Go.Proofs.YtdfnocopakbhoaaGreatDoor.S12
namespace Go.Proofs.YtdfnocopakbhoaaGreatDoor.S8
open Go.Proofs.YtdfnocopakbhoaaGreatDoor
open Go.RowKit

abbrev Tm (a f : Nat) : Value := .agg #[.int .u64 a, .int .u64 f]
/-- A sum that stays at the greatest number of 64 bits. -/
def sat (a b : Nat) : Nat := if a + b ≤ 18446744073709551615 then a + b else 18446744073709551615
/-- A timer in a block of its own. -/
def TmAt (T : TypeId) (w : World) (B a f : Nat) : Prop := w.heap[B]? = some (.cells #[.int .u64 a, .int .u64 f] T (0, 0))
section
variable {T : TypeId} {w w' : World} {B a f : Nat}
theorem TmAt.lt (h : TmAt T w B a f) : B < w.heap.size := (Array.getElem?_eq_some_iff.1 h).1
theorem TmAt.c0 (h : TmAt T w B a f) : w.cell? ⟨B, 0, none⟩ = some (.int .u64 a) := by simp [World.cell?, show w.heap[B]? = _ from h]
theorem TmAt.c1 (h : TmAt T w B a f) : w.cell? ⟨B, 1, none⟩ = some (.int .u64 f) := by simp [World.cell?, show w.heap[B]? = _ from h]
theorem TmAt.z0 (h : TmAt T w B a f) : w.frozen? ⟨B, 0, none⟩ = false := by simp [World.frozen?, show w.heap[B]? = _ from h]
theorem TmAt.z1 (h : TmAt T w B a f) : w.frozen? ⟨B, 1, none⟩ = false := by simp [World.frozen?, show w.heap[B]? = _ from h]
theorem TmAt.new (h : TmAt T w B a f) (b : Below w.heap.size w w') : TmAt T w' B a f := (b.block B h.lt).trans h
theorem TmAt.put (h : TmAt T w B a f) (x y : Nat) : TmAt T ((w.setCell ⟨B, 0, none⟩ (.int .u64 x)).setCell ⟨B, 1, none⟩ (.int .u64 y)) B x y := by
  have h' : w.heap[B]? = _ := h
  simp [TmAt, World.setCell, Array.getElem?_modify, h']
theorem TmAt.made (w : World) (T : TypeId) (a f : Nat) : TmAt T (w.alloc (.cells #[.int .u64 a, .int .u64 f] T)) w.heap.size a f :=
  heap_alloc_new w _
end
theorem below1 (w : World) (o : Obj) : Below w.heap.size w (w.alloc o) := (Below.refl _ _).alloc (Nat.le_refl _) _
theorem begin_any (n : Nat) (w : World) : Calls Tryz.prog 111 #[.int .u64 n] w fun e w' => e = .returned (Tm n n) ∧ Below w.heap.size w w' := by
  go_enter Tryz.func111, Tryz.ntmps111
  go_wp2
  exact bodyPost_ret (v := Tm n n) (by simp [results, Tryz.results111, go_sem]) rfl ⟨rfl, (Below.refl _ _).alloc (Nat.le_refl _) _⟩
theorem rbegin_any (n : Nat) (w : World) : Calls Tryz.prog 120 #[.int .u64 n] w fun e w' => e = .returned (Tm n n) ∧ Below w.heap.size w w' := by
  go_enter Tryz.func120, Tryz.ntmps120
  go_wp2
  exact bodyPost_ret (v := Tm n n) (by simp [results, Tryz.results120, go_sem]) rfl ⟨rfl, (Below.refl _ _).alloc (Nat.le_refl _) _⟩
theorem due_any (a f n : Nat) (w : World) : Calls Tryz.prog 67 #[Tm a f, .int .u64 n] w fun e w' => e = .returned (.bool (decide (a < n))) ∧ Below w.heap.size w w' := by
  go_enter Tryz.func67, Tryz.ntmps67
  go_wp2
  go_ret
  exact ⟨rfl, (Below.refl _ _).alloc (Nat.le_refl _) _⟩
theorem other_any (a f : Nat) (w : World) : Calls Tryz.prog 97 #[Tm a f] w fun e w' => e = .returned (Tm a f) ∧ Below w.heap.size w w' := by
  go_enter Tryz.func97, Tryz.ntmps97
  go_wp2
  exact bodyPost_ret (v := Tm a f) (by simp [results, Tryz.results97, go_sem]) rfl ⟨rfl, ((Below.refl _ _).alloc (Nat.le_refl _) _).alloc (by simp) _⟩
theorem fix_any (p q : Addr) (x n : Nat) (w : World) (hp : w.cell? p = some (.int .u64 x)) (hz : w.frozen? p = false) (hq : w.cell? q = some (.int .u64 n)) :
    CallsD Tryz.prog 127 #[.pointer (some p), .pointer (some q)] .returning w fun e u' w' => u' = .returning ∧ e = .returned (.tuple #[]) ∧ w' = if x < n then w.setCell p (.int .u64 (18446744073709551615 : Nat)) else w := by
  by_cases h : x < n
  · rw [if_pos h]
    go_enter_d Tryz.func127, Tryz.ntmps127
    go_wp2
    go_end0
    exact ⟨rfl, rfl⟩
  · rw [if_neg h]
    go_enter_d Tryz.func127, Tryz.ntmps127
    go_wp2
    go_end0
    exact ⟨rfl, rfl⟩
/-- A sum of 64 bits, as it goes round. -/
def rnd (a b : Nat) : Nat := (a + b) % 18446744073709551616
theorem rnd_wrap (a b : Nat) : IntKind.u64.wrap ((a : Int) + (b : Int)) = ((rnd a b : Nat) : Int) := by
  rw [IntKind.wrap_u64]; unfold rnd; omega
theorem rnd_sat {a b : Nat} (ha : a ≤ 18446744073709551615) (hb : b ≤ 18446744073709551615) : (if rnd a b < a then 18446744073709551615 else rnd a b) = sat a b := by
  unfold rnd sat
  split <;> split <;> omega
theorem end_any (n d : Nat) (hn : n ≤ 18446744073709551615) (hd : d ≤ 18446744073709551615) (w : World) : Calls Tryz.prog 109 #[.int .u64 n, .int .u64 d] w fun e w' => e = .returned (.int .u64 (sat n d : Nat)) ∧ Below w.heap.size w w' := by
  have hmf : ∀ (fn : Fn) (first cap : Array Value) (w : World), (Instr.makeFunc fn first cap).run Tryz.prog w = .ok (.func fn first cap) w := fun _ _ _ _ => rfl
  have hr := rnd_wrap n d
  have hs := rnd_sat hn hd
  generalize sat n d = r at *
  generalize rnd n d = s at *
  clear hn hd
  have HS := Lib.hid hs
  clear hs
  go_enter_defers Tryz.func109, Tryz.ntmps109
  go_wp2
  refine leaves_cons (f := 127) (args := #[.pointer (some ⟨w.heap.size + 1, 0, none⟩), .pointer (some ⟨w.heap.size, 0, none⟩)]) (by simp) (by simp [go_sem]) ?_
  refine (fix_any ⟨w.heap.size + 1, 0, none⟩ ⟨w.heap.size, 0, none⟩ s n _ (by simp [go_sem]) (by simp [go_sem]) (by simp [go_sem, World.cell?_alloc_lt])).mono ?_
  rintro e u' w'' ⟨rfl, rfl, rfl⟩
  have hb : Below w.heap.size w ((w.alloc (Obj.cells #[Value.int IntKind.u64 n] 22)).alloc (Obj.cells #[Value.int IntKind.u64 s] 22)) := ((Below.refl _ _).alloc (Nat.le_refl _) _).alloc (by simp) _
  by_cases h : s < n
  · have e := HS.out
    rw [if_pos h] at e
    subst e
    rw [if_pos h]
    simp [Leaves, settle, results, Tryz.results109, go_sem]
    exact ((Below.refl _ _).alloc (Nat.le_refl _) _).alloc (by simp) _
  · have e := HS.out
    rw [if_neg h] at e
    subst e
    rw [if_neg h]
    simp [Leaves, settle, results, Tryz.results109, go_sem]
    exact hb
/-- What a timer is that was asked, and whether it fired. -/
def firA (a n d : Nat) : Nat := if a < n then sat n d else a
def firF (a f n : Nat) : Nat := if a < n then n else f
/-- Two timers' blocks, made one behind the other: what comes in, and an empty one. -/
theorem two_made (T : TypeId) (w : World) (a f : Nat) : TmAt T ((w.alloc (.cells #[.int .u64 a, .int .u64 f] T)).alloc (.cells #[.int .u64 0, .int .u64 0] T)) w.heap.size a f
    ∧ TmAt T ((w.alloc (.cells #[.int .u64 a, .int .u64 f] T)).alloc (.cells #[.int .u64 0, .int .u64 0] T)) (w.heap.size + 1) 0 0
    ∧ Below w.heap.size w ((w.alloc (.cells #[.int .u64 a, .int .u64 f] T)).alloc (.cells #[.int .u64 0, .int .u64 0] T)) := by
  refine ⟨(TmAt.made w T a f).new (below1 _ _), ?_, (below1 w _).alloc (by simp) _⟩
  have h := TmAt.made (w.alloc (.cells #[.int .u64 a, .int .u64 f] T)) T 0 0
  rw [show (w.alloc (.cells #[.int .u64 a, .int .u64 f] T)).heap.size = w.heap.size + 1 by simp] at h
  exact h
theorem fire_any (a f n d : Nat) (hn : n ≤ 18446744073709551615) (hd : d ≤ 18446744073709551615) (w : World) : Calls Tryz.prog 68 #[Tm a f, .int .u64 n, .int .u64 d] w fun e w' => e = .returned (.tuple #[Tm (firA a n d) (firF a f n), .bool (decide (a < n))]) ∧ Below w.heap.size w w' := by
  have q := due_any a f n
  have r := end_any n d hn hd
  unfold firA firF
  have Q := Lib.hid q; have R := Lib.hid r
  clear q r
  generalize sat n d = s at *
  clear hn hd
  obtain ⟨a1, a2, hb⟩ := two_made 138 w a f
  by_cases h : a < n
  · rw [if_pos h, if_pos h]
    rw [decide_eq_true h] at Q ⊢
    clear h
    go_enter Tryz.func68, Tryz.ntmps68
    go_upto_region 1 with (fail)
    generalize (w.alloc (.cells #[.int .u64 a, .int .u64 f] 138)).alloc (.cells #[.int .u64 0, .int .u64 0] 138) = w1 at *
    have c0 := a1.c0; have c1 := a1.c1
    have A2 := Lib.hid a2; have HB := Lib.hid hb
    clear a1 a2 hb
    go_wp2_with fail
    refine (Q.out _).mono ?_
    rintro e w2 ⟨rfl, b2⟩
    have A3 := Lib.hid (A2.out.new b2)
    have HB2 := Lib.hid (HB.out.trans (b2.mono HB.out.size))
    clear b2
    go_wp2_with fail
    refine (R.out _).mono ?_
    rintro e w3 ⟨rfl, b3⟩
    have a4 := A3.out.new b3
    have HB3 := Lib.hid (HB2.out.trans (b3.mono HB2.out.size))
    have c0 := a4.c0; have c1 := a4.c1; have z0 := a4.z0; have z1 := a4.z1
    have h4 := a4.put s n
    have d0 := h4.c0; have d1 := h4.c1
    have hB : w.heap.size ≤ w.heap.size + 1 := Nat.le_succ _
    clear a4 h4 b3
    go_wp2_with fail
    exact bodyPost_ret (v := .tuple #[Tm s n, .bool true]) (by simp [results, Tryz.results68, go_sem, d0, d1]) rfl ⟨rfl, (HB3.out.setCell (p := ⟨w.heap.size + 1, 0, none⟩) hB _).setCell (p := ⟨w.heap.size + 1, 1, none⟩) hB _⟩
  · rw [if_neg h, if_neg h]
    rw [decide_eq_false h] at Q ⊢
    clear h
    go_enter Tryz.func68, Tryz.ntmps68
    go_upto_region 1 with (fail)
    generalize (w.alloc (.cells #[.int .u64 a, .int .u64 f] 138)).alloc (.cells #[.int .u64 0, .int .u64 0] 138) = w1 at *
    have c0 := a1.c0; have c1 := a1.c1
    have A1 := Lib.hid a1; have A2 := Lib.hid a2; have HB := Lib.hid hb
    clear a1 a2 hb
    go_wp2_with fail
    refine (Q.out _).mono ?_
    rintro e w2 ⟨rfl, b2⟩
    have a4 := A2.out.new b2
    have a5 := A1.out.new b2
    have HB2 := Lib.hid (HB.out.trans (b2.mono HB.out.size))
    clear b2 c0 c1
    have c0 := a4.c0; have c1 := a4.c1; have z0 := a4.z0; have z1 := a4.z1
    have e0 := a5.c0; have e1 := a5.c1
    have h4 := a4.put a f
    have d0 := h4.c0; have d1 := h4.c1
    have hB : w.heap.size ≤ w.heap.size + 1 := Nat.le_succ _
    clear a4 a5 h4
    go_wp2_with fail
    exact bodyPost_ret (v := .tuple #[Tm a f, .bool false]) (by simp [results, Tryz.results68, go_sem, d0, d1]) rfl ⟨rfl, (HB2.out.setCell (p := ⟨w.heap.size + 1, 0, none⟩) hB _).setCell (p := ⟨w.heap.size + 1, 1, none⟩) hB _⟩
end Go.Proofs.YtdfnocopakbhoaaGreatDoor.S8
namespace Go.Proofs.YtdfnocopakbhoaaGreatDoor.S8
open Go.Proofs.YtdfnocopakbhoaaGreatDoor
open Go.RowKit


/-- The literal calls of the chapter's examples. -/
theorem eq24 (a f x y : Nat) (w : World) : (binOp .eql 138 (Tm a f) (Tm x y)).run Tryz.prog w = .ok (.bool (decide (a = x) && decide (f = y))) w := by
  simp [go_sem, Tryz.underlying138]
  by_cases h1 : a = x <;> by_cases h2 : f = y <;> simp [h1, h2] <;> omega
theorem eq27 (a f x y : Nat) (w : World) : (binOp .eql 148 (Tm a f) (Tm x y)).run Tryz.prog w = .ok (.bool (decide (a = x) && decide (f = y))) w := by
  simp [go_sem, Tryz.underlying148]
  by_cases h1 : a = x <;> by_cases h2 : f = y <;> simp [h1, h2] <;> omega
theorem neq24 (a f x y : Nat) (w : World) : (binOp .neq 138 (Tm a f) (Tm x y)).run Tryz.prog w = .ok (.bool (!(decide (a = x) && decide (f = y)))) w := by
  simp [go_sem, Tryz.underlying138]
  by_cases h1 : a = x <;> by_cases h2 : f = y <;> simp [h1, h2] <;> omega
/-- A timer in a block of its own, written in literals. -/
def LitAt (T : TypeId) (w : World) (B : Nat) (a f : Int) : Prop := w.heap[B]? = some (.cells #[.int .u64 a, .int .u64 f] T (0, 0))
section
variable {T : TypeId} {w w' : World} {B : Nat} {a f : Int}
theorem LitAt.lt (h : LitAt T w B a f) : B < w.heap.size := (Array.getElem?_eq_some_iff.1 h).1
theorem LitAt.c0 (h : LitAt T w B a f) : w.cell? ⟨B, 0, none⟩ = some (.int .u64 a) := by simp [World.cell?, show w.heap[B]? = _ from h]
theorem LitAt.c1 (h : LitAt T w B a f) : w.cell? ⟨B, 1, none⟩ = some (.int .u64 f) := by simp [World.cell?, show w.heap[B]? = _ from h]
theorem LitAt.new (h : LitAt T w B a f) (b : Below w.heap.size w w') : LitAt T w' B a f := (b.block B h.lt).trans h
theorem LitAt.made (w : World) (T : TypeId) (a f : Int) : LitAt T (w.alloc (.cells #[.int .u64 a, .int .u64 f] T)) w.heap.size a f :=
  heap_alloc_new w _
end
end Go.Proofs.YtdfnocopakbhoaaGreatDoor.S8
namespace Go.Proofs.YtdfnocopakbhoaaGreatDoor.S12
open Go.Proofs.YtdfnocopakbhoaaGreatDoor Go.Proofs.YtdfnocopakbhoaaGreatDoor.S11
open Go.RowKit

/-- A cell of an old block stays. -/
theorem bcell {w w' : World} {a : Addr} {v : Value} (h : Below w.heap.size w w') (hc : w.cell? a = some v) : w'.cell? a = some v := by
  have hl : a.block < w.heap.size := by
    unfold World.cell? at hc
    cases hb : w.heap[a.block]? with
    | none => simp [hb] at hc
    | some x => exact (Array.getElem?_eq_some_iff.1 hb).1
  exact (h.cell hl).trans hc
abbrev TmI (a f : Int) : Value := .agg #[.int .u64 a, .int .u64 f]
def TmIn (w : World) (B : Nat) (a f : Int) : Prop := w.heap[B]? = some (.cells #[.int .u64 a, .int .u64 f] 138 (0, 0))
section
variable {w w' : World} {B : Nat} {a f : Int}
theorem TmIn.lt (h : TmIn w B a f) : B < w.heap.size := (Array.getElem?_eq_some_iff.1 h).1
theorem TmIn.c0 (h : TmIn w B a f) : w.cell? ⟨B, 0, none⟩ = some (.int .u64 a) := by simp [World.cell?, show w.heap[B]? = _ from h]
theorem TmIn.c1 (h : TmIn w B a f) : w.cell? ⟨B, 1, none⟩ = some (.int .u64 f) := by simp [World.cell?, show w.heap[B]? = _ from h]
theorem TmIn.z0 (h : TmIn w B a f) : w.frozen? ⟨B, 0, none⟩ = false := by simp [World.frozen?, show w.heap[B]? = _ from h]
theorem TmIn.z1 (h : TmIn w B a f) : w.frozen? ⟨B, 1, none⟩ = false := by simp [World.frozen?, show w.heap[B]? = _ from h]
theorem TmIn.new (h : TmIn w B a f) (b : Below w.heap.size w w') : TmIn w' B a f := (b.block B h.lt).trans h
theorem TmIn.put (h : TmIn w B a f) (x y : Int) : TmIn ((w.setCell ⟨B, 0, none⟩ (.int .u64 x)).setCell ⟨B, 1, none⟩ (.int .u64 y)) B x y := by
  have h' : w.heap[B]? = _ := h
  simp [TmIn, World.setCell, Array.getElem?_modify, h']
theorem TmIn.made (w : World) (a f : Int) : TmIn (w.alloc (.cells #[.int .u64 a, .int .u64 f] 138)) w.heap.size a f := heap_alloc_new w _
end
theorem due_int (a f : Int) (n : Nat) (w : World) : Calls Tryz.prog 67 #[TmI a f, .int .u64 n] w fun e w' => e = .returned (.bool (decide (a < (n : Int)))) ∧ Below w.heap.size w w' := by
  go_enter Tryz.func67, Tryz.ntmps67
  go_wp2
  go_ret
  exact ⟨rfl, (Below.refl _ _).alloc (Nat.le_refl _) _⟩
theorem two_int (w : World) (a f : Int) : TmIn ((w.alloc (.cells #[.int .u64 a, .int .u64 f] 138)).alloc (.cells #[.int .u64 0, .int .u64 0] 138)) w.heap.size a f
    ∧ TmIn ((w.alloc (.cells #[.int .u64 a, .int .u64 f] 138)).alloc (.cells #[.int .u64 0, .int .u64 0] 138)) (w.heap.size + 1) 0 0
    ∧ Below w.heap.size w ((w.alloc (.cells #[.int .u64 a, .int .u64 f] 138)).alloc (.cells #[.int .u64 0, .int .u64 0] 138)) := by
  refine ⟨(TmIn.made w a f).new (S8.below1 _ _), ?_, (S8.below1 w _).alloc (by simp) _⟩
  have h := TmIn.made (w.alloc (.cells #[.int .u64 a, .int .u64 f] 138)) 0 0
  rw [show (w.alloc (.cells #[.int .u64 a, .int .u64 f] 138)).heap.size = w.heap.size + 1 by simp] at h
  exact h
theorem fire_yes (a f : Int) (n d : Nat) (h : a < (n : Int)) (hn : n ≤ 18446744073709551615) (hd : d ≤ 18446744073709551615) (w : World) :
    Calls Tryz.prog 68 #[TmI a f, .int .u64 n, .int .u64 d] w fun e w' => e = .returned (.tuple #[TmI (S8.sat n d : Nat) n, .bool true]) ∧ Below w.heap.size w w' := by
  have q := due_int a f n
  have r := S8.end_any n d hn hd
  have Q := Lib.hid q; have R := Lib.hid r
  clear q r
  generalize S8.sat n d = s at *
  clear hn hd
  obtain ⟨a1, a2, hb⟩ := two_int w a f
  rw [decide_eq_true h] at Q
  clear h
  go_enter Tryz.func68, Tryz.ntmps68
  go_upto_region 1 with (fail)
  generalize (w.alloc (.cells #[.int .u64 a, .int .u64 f] 138)).alloc (.cells #[.int .u64 0, .int .u64 0] 138) = w1 at *
  have c0 := a1.c0; have c1 := a1.c1
  have A2 := Lib.hid a2; have HB := Lib.hid hb
  clear a1 a2 hb
  go_wp2_with fail
  refine (Q.out _).mono ?_
  rintro e w2 ⟨rfl, b2⟩
  have A3 := Lib.hid (A2.out.new b2)
  have HB2 := Lib.hid (HB.out.trans (b2.mono HB.out.size))
  clear b2
  go_wp2_with fail
  refine (R.out _).mono ?_
  rintro e w3 ⟨rfl, b3⟩
  have a4 := A3.out.new b3
  have HB3 := Lib.hid (HB2.out.trans (b3.mono HB2.out.size))
  have c0 := a4.c0; have c1 := a4.c1; have z0 := a4.z0; have z1 := a4.z1
  have h4 := a4.put (s : Int) (n : Int)
  have d0 := h4.c0; have d1 := h4.c1
  have hB : w.heap.size ≤ w.heap.size + 1 := Nat.le_succ _
  clear a4 h4 b3
  go_wp2_with fail
  exact bodyPost_ret (v := .tuple #[TmI (s : Int) (n : Int), .bool true]) (by simp [results, Tryz.results68, go_sem, d0, d1]) rfl ⟨rfl, (HB3.out.setCell (p := ⟨w.heap.size + 1, 0, none⟩) hB _).setCell (p := ⟨w.heap.size + 1, 1, none⟩) hB _⟩
end Go.Proofs.YtdfnocopakbhoaaGreatDoor.S12
namespace Go.Proofs.YtdfnocopakbhoaaGreatDoor.S12
open Go.Proofs.YtdfnocopakbhoaaGreatDoor Go.Proofs.YtdfnocopakbhoaaGreatDoor.S11
open Go.RowKit

noncomputable def pcells (a b c d e f : Value) (spin : Int) : Array Value := ((((((Tryz.zeroCells47.setIfInBounds 0 a).setIfInBounds 1 b).setIfInBounds 2 c).setIfInBounds 3 d).setIfInBounds 4 e).setIfInBounds 5 f).setIfInBounds 6 (.int .i64 spin)
theorem zsize : Tryz.zeroCells47.size = 71 := by kernel_rfl
theorem pc0 (a b c d e f : Value) (sp : Int) : (pcells a b c d e f sp)[0]? = some a := by
  simp [pcells, Array.getElem?_setIfInBounds, zsize]
theorem pc1 (a b c d e f : Value) (sp : Int) : (pcells a b c d e f sp)[1]? = some b := by
  simp [pcells, Array.getElem?_setIfInBounds, zsize]
theorem pc2 (a b c d e f : Value) (sp : Int) : (pcells a b c d e f sp)[2]? = some c := by
  simp [pcells, Array.getElem?_setIfInBounds, zsize]
theorem pc3 (a b c d e f : Value) (sp : Int) : (pcells a b c d e f sp)[3]? = some d := by
  simp [pcells, Array.getElem?_setIfInBounds, zsize]
theorem pc4 (a b c d e f : Value) (sp : Int) : (pcells a b c d e f sp)[4]? = some e := by
  simp [pcells, Array.getElem?_setIfInBounds, zsize]
theorem pc5 (a b c d e f : Value) (sp : Int) : (pcells a b c d e f sp)[5]? = some f := by
  simp [pcells, Array.getElem?_setIfInBounds, zsize]
theorem pc6 (a b c d e f : Value) (sp : Int) : (pcells a b c d e f sp)[6]? = some (.int .i64 sp) := by
  simp [pcells, Array.getElem?_setIfInBounds, zsize]
/-- Where the things of a world of the program's stand, and what they say. -/
structure Wm where
  cB : Nat
  cM : Option Nat
  L : S2.LL
  n : Nat
  k : Nat
  a : Nat
  was : Nat
  is : Nat
  kb : Nat
  kB : Nat
  T : Nat
  most : Nat
  ks : Value
  D : List Nat
  pB : Nat
  pf : Nat → S4.Pk
  pn : Nat
  pk : Int
  pp : Int
  lB : Nat
  lk : S5.Lk
  tb : Nat
  tO : Nat → Option S10.Role
  ts : Value
  tn : Nat
  tM : Int → List S10.Bk
  nb : Nat
  nB : Nat
  ns : Value
  nD : List Nt
  wB : Nat
  sp : Int
abbrev Pw (B : Nat) : Value := .pointer (some ⟨B, 0, none⟩)
noncomputable def Wm.cs (X : Wm) : Array Value := pcells (Pw X.cB) (Pw X.kB) (Pw X.pB) (Pw X.lB) X.ts (Pw X.nB) X.sp
noncomputable def Wm.parts (X : Wm) : List Part := [cellsP X.cB X.cM X.L X.n X.k X.a X.was X.is, clockP X.kb X.kB X.T X.most X.ks X.D, permitsP X.pB X.pf (X.pn : Int) X.pk X.pp, linksP X.lB X.lk, tablesP X.tb X.tO X.ts X.tn X.tM, notesP 151 .u8 X.nb X.nB X.ns X.nD, blockP X.wB (.cells X.cs 47)]
def PW (w : World) (base : Nat) (X : Wm) : Prop := Parts w base X.parts
section
variable {w w' : World} {base : Nat} {X : Wm}
theorem PW.cells (h : PW w base X) : S2.CellsAt w X.cB X.cM X.L X.n X.k X.a X.was X.is := h.ok 0 _ rfl
theorem PW.clock (h : PW w base X) : S3.ClockAt w X.kb X.kB X.T X.most X.ks X.D := h.ok 1 _ rfl
theorem PW.permits (h : PW w base X) : S4.PkAt w X.pB X.pf (X.pn : Int) X.pk X.pp := h.ok 2 _ rfl
theorem PW.links (h : PW w base X) : S5.Has w X.lB X.lk := h.ok 3 _ rfl
theorem PW.tables (h : PW w base X) : S10.St w X.tb X.tO X.ts X.tn X.tM := h.ok 4 _ rfl
theorem PW.notes (h : PW w base X) : S11.LAt 151 .u8 w X.nb X.nB X.ns X.nD := h.ok 5 _ rfl
theorem PW.own (h : PW w base X) : w.heap[X.wB]? = some (.cells X.cs 47) := h.ok 6 _ rfl
theorem PW.new (h : PW w base X) (b : Below w.heap.size w w') : PW w' base X := Parts.new h b
theorem PW.drew (h : PW w base X) : PW w.drew base X := Parts.drew h
theorem PW.size (h : PW w base X) : base ≤ w.heap.size := Parts.size h
theorem PW.c0 (h : PW w base X) : w.cell? ⟨X.wB, 0, none⟩ = some (Pw X.cB) := (cell_row h.own 0).trans (pc0 _ _ _ _ _ _ _)
theorem PW.c1 (h : PW w base X) : w.cell? ⟨X.wB, 1, none⟩ = some (Pw X.kB) := (cell_row h.own 1).trans (pc1 _ _ _ _ _ _ _)
theorem PW.c2 (h : PW w base X) : w.cell? ⟨X.wB, 2, none⟩ = some (Pw X.pB) := (cell_row h.own 2).trans (pc2 _ _ _ _ _ _ _)
theorem PW.c3 (h : PW w base X) : w.cell? ⟨X.wB, 3, none⟩ = some (Pw X.lB) := (cell_row h.own 3).trans (pc3 _ _ _ _ _ _ _)
theorem PW.c4 (h : PW w base X) : w.cell? ⟨X.wB, 4, none⟩ = some X.ts := (cell_row h.own 4).trans (pc4 _ _ _ _ _ _ _)
theorem PW.c5 (h : PW w base X) : w.cell? ⟨X.wB, 5, none⟩ = some (Pw X.nB) := (cell_row h.own 5).trans (pc5 _ _ _ _ _ _ _)
theorem PW.c6 (h : PW w base X) : w.cell? ⟨X.wB, 6, none⟩ = some (.int .i64 X.sp) := (cell_row h.own 6).trans (pc6 _ _ _ _ _ _ _)
end
/-- The blocks of a world of the program's. -/
def Foot (X : Wm) (k : Nat) : Prop := ∃ (i : Nat) (p : Part), X.parts[i]? = some p ∧ p.fp k
theorem PW.foot_lt {w : World} {base : Nat} {X : Wm} (h : PW w base X) {k : Nat} (hk : Foot X k) : k < w.heap.size := by
  obtain ⟨i, p, hp, hf⟩ := hk
  exact p.lt w (h.ok i p hp) k hf
theorem PW.foot_ge {w : World} {base : Nat} {X : Wm} (h : PW w base X) {k : Nat} (hk : Foot X k) : base ≤ k := by
  obtain ⟨i, p, hp, hf⟩ := hk
  exact h.low i p hp k hf
theorem PW.keep {S : Nat → Prop} {w w' : World} {base : Nat} {X : Wm} (h : PW w base X) (t : Turns S w w') (hs : ∀ k, Foot X k → ¬ S k) : PW w' base X :=
  Parts.kept h t (fun i p hp k hk => hs k ⟨i, p, hp, hk⟩)
/-- What is drawn next. -/
def drawN (D : List Nat) (most : Nat) : Nat := match D with
  | [] => 0
  | d :: _ => S3.brt d most
theorem drawN_le {T most : Nat} {D : List Nat} (h : S3.Nums T most D) : drawN D most ≤ 18446744073709551615 := by
  cases D with
  | nil => exact Nat.zero_le _
  | cons d D => exact Nat.le_trans (Nat.mod_le _ _) (h.all d (by simp))
theorem foot_clock {X : Wm} {s : Value} {D : List Nat} {T : Nat} (hs : s.ownBlock = X.ks.ownBlock) {k : Nat} (h : Foot { X with ks := s, D := D, T := T } k) : Foot X k := by
  obtain ⟨i, p, hp, hf⟩ := h
  match i, hp with
  | 0, hp => exact ⟨0, _, rfl, by injection hp with hp; subst hp; exact hf⟩
  | 1, hp =>
    injection hp with hp; subst hp
    refine ⟨1, _, rfl, ?_⟩
    rcases hf with e | e
    · exact .inl e
    · exact .inr (by rw [← hs]; exact e)
  | 2, hp => exact ⟨2, _, rfl, by injection hp with hp; subst hp; exact hf⟩
  | 3, hp => exact ⟨3, _, rfl, by injection hp with hp; subst hp; exact hf⟩
  | 4, hp => exact ⟨4, _, rfl, by injection hp with hp; subst hp; exact hf⟩
  | 5, hp => exact ⟨5, _, rfl, by injection hp with hp; subst hp; exact hf⟩
  | 6, hp => exact ⟨6, _, rfl, by injection hp with hp; subst hp; exact hf⟩
  | i + 7, hp => simp [Wm.parts] at hp
/-- A draw. -/
def DrawnW (w w' : World) (base : Nat) (X : Wm) : Prop := ∃ s, PW w' base { X with ks := s, D := X.D.tail } ∧ s.ownBlock = X.ks.ownBlock ∧ Below base w w' ∧ Turns (fun k => k = X.kB) w w'
theorem draw_w {w : World} {base : Nat} {X : Wm} (h : PW w base X) : Calls Tryz.prog 10 #[Pw X.kB] w fun e w' => e = .returned (.int .u64 (drawN X.D X.most : Nat)) ∧ DrawnW w w' base X := by
  have hc := h.clock
  cases hD : X.D with
  | nil =>
    rw [hD] at hc
    refine (S3.draw_none hc).mono ?_
    rintro e w' ⟨rfl, rfl⟩
    exact ⟨rfl, X.ks, by rw [hD, show ({ X with ks := X.ks, D := [].tail } : Wm) = X from by cases X; dsimp only at hD; subst hD; rfl]; exact h, rfl, Below.refl _ _, Turns.refl _ _⟩
  | cons d D =>
    rw [hD] at hc
    refine (S3.draw_some hc).mono ?_
    rintro e w' ⟨rfl, s', c', ho, t⟩
    obtain ⟨hp, hb⟩ := t_clock (i := 1) h rfl c' (fun g hg => .inl (by rw [← ho]; exact hg)) (t.mono (fun k _ e => .inl e))
    exact ⟨rfl, s', by rw [hD]; exact hp, ho, hb, ⟨t.os, t.tape, t.output, t.size, t.block⟩⟩
set_option maxRecDepth 100000 in
set_option maxHeartbeats 4000000 in
/-- Accesses and calls together. -/
theorem steps_any {w : World} {base : Nat} {X : Wm} (h : PW w base X) (h1 : X.n ≤ 1000000000) (h2 : X.pn ≤ 1000000000) :
    Calls Tryz.prog 13 #[Pw X.wB] w fun e w' => e = .returned (.int .i64 ((X.n + X.pn : Nat) : Int)) ∧ Below w.heap.size w w' := by
  have hmf : ∀ (fn : Fn) (first cap : Array Value) (w : World), (Instr.makeFunc fn first cap).run Tryz.prog w = .ok (.func fn first cap) w := fun _ _ _ _ => rfl
  have hi0 : ∀ (x y : Value) (w : World), (Instr.index 149 (.agg #[x, y]) (.int .i64 0)).run Tryz.prog w = .ok x w := fun _ _ _ => by kernel_rfl
  have hi1 : ∀ (x y : Value) (w : World), (Instr.index 149 (.agg #[x, y]) (.int .i64 1)).run Tryz.prog w = .ok y w := fun _ _ _ => by kernel_rfl
  have HC := Lib.hid (fun (W : World) (b : Below w.heap.size w W) => S2.count_any W X.cB X.cM X.L X.n X.k X.a X.was X.is (h.new b).cells)
  have HP := Lib.hid (fun (W : World) (b : Below w.heap.size w W) => S4.pcount_any (h.new b).permits)
  have c0 := h.c0; have c2 := h.c2
  clear h
  obtain ⟨cB, cM, L, n, k, a, was, is, kb, kB, T, most, ks, D, pB, pf, pn, pk, pp, lB, lk, tb, tO, ts, tn, tM, nb, nB, ns, nD, wB, sp⟩ := X
  dsimp only at *
  have hw1 : IntKind.i64.wrap (0 + (n : Int)) = (n : Int) := by rw [IntKind.wrap_i64]; omega
  have hw2 : IntKind.i64.wrap ((n : Int) + (pn : Int)) = ((n + pn : Nat) : Int) := by rw [IntKind.wrap_i64]; omega
  have HG1 : Hid (Value.int IntKind.i64 (wrap64 (n : Int)) = .int .i64 (n : Int)) := Lib.hid (by rw [show wrap64 (n : Int) = n from by unfold wrap64; omega])
  have HG2 : Hid (Value.int IntKind.i64 (wrap64 ((n : Int) + (pn : Int))) = .int .i64 ((n + pn : Nat) : Int)) := Lib.hid (by rw [show wrap64 ((n : Int) + (pn : Int)) = ((n + pn : Nat) : Int) from by unfold wrap64; omega])
  clear h1 h2 hw1 hw2
  generalize ((n + pn : Nat) : Int) = tot at *
  go_enter Tryz.func13, Tryz.ntmps13
  go_wp2_with fail
  go_quiet (fail)
  go_wp2_with fail
  have HB0 : Hid (Below w.heap.size w (w.drewN nq)) := Lib.hid ⟨rfl, rfl, rfl, Nat.le_refl _, fun _ _ => rfl⟩
  go_loopg [3, 5, 19] 2 (fun q s3 s5 s19 wx => Below w.heap.size w wx ∧ ((q = 2 ∧ s19 = .int .i64 0 ∧ s3 = .int .i64 0) ∨ (q = 1 ∧ s19 = .int .i64 1 ∧ s3 = .int .i64 (n : Int)) ∨ (q = 0 ∧ s19 = .int .i64 2 ∧ s3 = .int .i64 tot)))
  case atStart => exact ⟨HB0.out, .inl ⟨rfl, rfl, rfl⟩⟩
  case round =>
    obtain ⟨hb, h⟩ := hrel
    have HB := Lib.hid hb
    clear hb
    rcases h with ⟨rfl, rfl, rfl⟩ | ⟨rfl, rfl, rfl⟩ | ⟨rfl, rfl, rfl⟩
    · go_wp2_with (go_at_call 60; refine (HC.out _ HB.out).mono ?_; rintro e w' ⟨rfl, rfl⟩)
      go_roundg 1
      case measure => omega
      case rel => exact ⟨HB.out, .inr (.inl ⟨rfl, rfl, HG1.out⟩)⟩
    · go_wp2_with (go_at_call 61; refine (HP.out _ HB.out).mono ?_; rintro e w' ⟨rfl, rfl⟩)
      go_roundg 0
      case measure => omega
      case rel => exact ⟨HB.out, .inr (.inr ⟨rfl, rfl, HG2.out⟩)⟩
    · go_wp2_with fail
      go_ret
      exact ⟨rfl, HB.out⟩
end Go.Proofs.YtdfnocopakbhoaaGreatDoor.S12
namespace Go.Proofs.YtdfnocopakbhoaaGreatDoor.S12
open Go.Proofs.YtdfnocopakbhoaaGreatDoor Go.Proofs.YtdfnocopakbhoaaGreatDoor.S11
open Go.RowKit

/-- One note more, where it may be. -/
def Noted (w w' : World) (base : Nat) (X : Wm) (x : Nt) : Prop := ∃ s, PW w' base { X with ns := s, nD := addD X.nD x } ∧ Below base w w'
set_option maxRecDepth 100000 in
set_option maxHeartbeats 4000000 in
theorem noteOf_any {w : World} {base : Nat} {X : Wm} (h : PW w base X) (h1 : X.n ≤ 1000000000) (h2 : X.pn ≤ 1000000000) (hl : X.nD.length ≤ 100000) (hT : Tab w) (t a o b : Int) (k : Nat) (hk : k < 256) :
    Calls Tryz.prog 65 #[Pw X.wB, .int .i64 t, .int .u8 (k : Int), .int .u32 a, .int .i64 o, .int .u32 b] w fun e w' => e = .returned (.tuple #[]) ∧ Noted w w' base X ⟨((X.n + X.pn : Nat) : Int), t, k, a, o, b, 0⟩ := by
  have hb : X.nb ≤ w.heap.size := Nat.le_of_lt (Nat.lt_of_le_of_lt h.notes.low h.notes.lt)
  have HST := Lib.hid (fun (W : World) (b : Below w.heap.size w W) => steps_any (h.new b) h1 h2)
  have HC5 := Lib.hid (fun (W : World) (b : Below w.heap.size w W) => (h.new b).c5)
  have HAD := Lib.hid (fun (W : World) (q : Below w.heap.size w W) => S11.add_any (h.new q).notes (Nat.le_trans hb q.size) (hT.below q hT.1) ⟨((X.n + X.pn : Nat) : Int), t, k, a, o, b, 0⟩ hk hl)
  have HTN := Lib.hid (fun (W W2 : World) (q : Below w.heap.size w W) (l : S11.Leaves 151 .u8 W W2 X.nb X.nB X.ns (addD X.nD ⟨((X.n + X.pn : Nat) : Int), t, k, a, o, b, 0⟩)) =>
    (show Noted w W2 base X ⟨((X.n + X.pn : Nat) : Int), t, k, a, o, b, 0⟩ from by
      obtain ⟨s', hp, hq⟩ := t_notes (i := 5) (h.new q) rfl l
      exact ⟨s', hp, (q.mono h.size).trans hq⟩))
  have HK5 := Lib.hid (fun (W W2 : World) (q : Below w.heap.size w W) (l : S11.Leaves 151 .u8 W W2 X.nb X.nB X.ns (addD X.nD ⟨((X.n + X.pn : Nat) : Int), t, k, a, o, b, 0⟩)) =>
    (show W2.cell? ⟨X.wB, 5, none⟩ = some (Pw X.nB) from by
      obtain ⟨s', hp, hq⟩ := t_notes (i := 5) (h.new q) rfl l
      exact PW.c5 (X := { X with ns := s', nD := addD X.nD ⟨((X.n + X.pn : Nat) : Int), t, k, a, o, b, 0⟩ }) hp))
  have HB0 : Hid (Below w.heap.size w w.drew) := Lib.hid ((Below.refl _ _).drew)
  have c5 := h.c5
  clear h hT hl hb
  obtain ⟨cB, cM, L, n, kk, aa, was, is, kb, kB, T, most, ks, D, pB, pf, pn, pk, pp, lB, lk, tb, tO, ts, tn, tM, nb, nB, ns, nD, wB, sp⟩ := X
  dsimp only at *
  clear h1 h2 hk
  generalize ((n + pn : Nat) : Int) = tot at *
  go_enter Tryz.func65, Tryz.ntmps65
  go_upto_region 1 with (fail)
  refine wp_region_held_drew (S := fun w' => w'.cell? ⟨wB, 5, none⟩ = some (Pw nB)) (by kernel_rfl) ?_ (fun hHeld => ?_)
  · exact c5
  refine wpAnyH_take (i := 0) (oi := ({ dst := some 14, op := Op.move (Operand.tmp 0), type := 28, pos := "worlds.go:77", after := #[], guard := none } : Oper)) (v := ?v0) rfl (by kernel_rfl) (by kernel_rfl) (by kernel_rfl) (fun _ _ _ h => h) (Or.inl ⟨by rfl, fun w hSw => ?hy0⟩) (by assumption) ?r0
  case hy0 => (try dsimp only at hSw); go_simp; (try with_reducible rfl)
  (try simp only [Act.put, List.setIfInBounds_toArray, List.set_cons_zero, List.set_cons_succ])
  refine wpAnyH_take (i := 1) (oi := ({ dst := some 15, op := Op.nilCheck (Operand.tmp 14), type := 0, pos := "worlds.go:77", after := #[{ on := 0, ground := Ground.data }], guard := none } : Oper)) (v := ?v1) rfl (by kernel_rfl) (by kernel_rfl) (by kernel_rfl) (fun _ _ _ h => h) (Or.inl ⟨by rfl, fun w hSw => ?hy1⟩) (by assumption) ?r1
  case hy1 => (try dsimp only at hSw); go_simp; (try with_reducible rfl)
  (try simp only [Act.put, List.setIfInBounds_toArray, List.set_cons_zero, List.set_cons_succ])
  refine wpAnyH_take (i := 2) (oi := ({ dst := some 16, op := Op.fieldAddr 47 (Operand.tmp 15) 5, type := 0, pos := "worlds.go:77", after := #[{ on := 1, ground := Ground.data }], guard := none } : Oper)) (v := ?v2) rfl (by kernel_rfl) (by kernel_rfl) (by kernel_rfl) (fun _ _ _ h => h) (Or.inl ⟨by rfl, fun w hSw => ?hy2⟩) (by assumption) ?r2
  case hy2 => (try dsimp only at hSw); go_simp; (try with_reducible rfl)
  (try simp only [Act.put, List.setIfInBounds_toArray, List.set_cons_zero, List.set_cons_succ])
  refine wpAnyH_take (i := 3) (oi := ({ dst := some 17, op := Op.load 44 (Operand.tmp 16), type := 44, pos := "worlds.go:77", after := #[{ on := 2, ground := Ground.data }], guard := none } : Oper)) (v := ?v3) rfl (by kernel_rfl) (by kernel_rfl) (by kernel_rfl) (fun _ _ _ h => h) (Or.inl ⟨by rfl, fun w hSw => ?hy3⟩) (by assumption) ?r3
  case hy3 => (try dsimp only at hSw); go_simp; (try with_reducible rfl)
  (try simp only [Act.put, List.setIfInBounds_toArray, List.set_cons_zero, List.set_cons_succ])
  refine wpAnyH_take (i := 4) (oi := ({ dst := some 18, op := Op.move (Operand.tmp 0), type := 28, pos := "worlds.go:77", after := #[], guard := none } : Oper)) (v := ?v4) rfl (by kernel_rfl) (by kernel_rfl) (by kernel_rfl) (fun _ _ _ h => h) (Or.inl ⟨by rfl, fun w hSw => ?hy4⟩) (by assumption) ?r4
  case hy4 => (try dsimp only at hSw); go_simp; (try with_reducible rfl)
  (try simp only [Act.put, List.setIfInBounds_toArray, List.set_cons_zero, List.set_cons_succ])
  refine wpAnyH_take (i := 6) (oi := ({ dst := some 20, op := Op.move (Operand.tmp 1), type := 3, pos := "worlds.go:77", after := #[], guard := none } : Oper)) (v := ?v6) rfl (by kernel_rfl) (by kernel_rfl) (by kernel_rfl) (fun _ _ _ h => h) (Or.inl ⟨by rfl, fun w hSw => ?hy6⟩) (by assumption) ?r6
  case hy6 => (try dsimp only at hSw); go_simp; (try with_reducible rfl)
  (try simp only [Act.put, List.setIfInBounds_toArray, List.set_cons_zero, List.set_cons_succ])
  refine wpAnyH_take (i := 7) (oi := ({ dst := some 21, op := Op.move (Operand.tmp 2), type := 76, pos := "worlds.go:77", after := #[], guard := none } : Oper)) (v := ?v7) rfl (by kernel_rfl) (by kernel_rfl) (by kernel_rfl) (fun _ _ _ h => h) (Or.inl ⟨by rfl, fun w hSw => ?hy7⟩) (by assumption) ?r7
  case hy7 => (try dsimp only at hSw); go_simp; (try with_reducible rfl)
  (try simp only [Act.put, List.setIfInBounds_toArray, List.set_cons_zero, List.set_cons_succ])
  refine wpAnyH_take (i := 8) (oi := ({ dst := some 22, op := Op.move (Operand.tmp 3), type := 65, pos := "worlds.go:77", after := #[], guard := none } : Oper)) (v := ?v8) rfl (by kernel_rfl) (by kernel_rfl) (by kernel_rfl) (fun _ _ _ h => h) (Or.inl ⟨by rfl, fun w hSw => ?hy8⟩) (by assumption) ?r8
  case hy8 => (try dsimp only at hSw); go_simp; (try with_reducible rfl)
  (try simp only [Act.put, List.setIfInBounds_toArray, List.set_cons_zero, List.set_cons_succ])
  refine wpAnyH_take (i := 9) (oi := ({ dst := some 23, op := Op.move (Operand.tmp 4), type := 3, pos := "worlds.go:77", after := #[], guard := none } : Oper)) (v := ?v9) rfl (by kernel_rfl) (by kernel_rfl) (by kernel_rfl) (fun _ _ _ h => h) (Or.inl ⟨by rfl, fun w hSw => ?hy9⟩) (by assumption) ?r9
  case hy9 => (try dsimp only at hSw); go_simp; (try with_reducible rfl)
  (try simp only [Act.put, List.setIfInBounds_toArray, List.set_cons_zero, List.set_cons_succ])
  refine wpAnyH_take (i := 10) (oi := ({ dst := some 24, op := Op.move (Operand.tmp 5), type := 65, pos := "worlds.go:77", after := #[], guard := none } : Oper)) (v := ?v10) rfl (by kernel_rfl) (by kernel_rfl) (by kernel_rfl) (fun _ _ _ h => h) (Or.inl ⟨by rfl, fun w hSw => ?hy10⟩) (by assumption) ?r10
  case hy10 => (try dsimp only at hSw); go_simp; (try with_reducible rfl)
  (try simp only [Act.put, List.setIfInBounds_toArray, List.set_cons_zero, List.set_cons_succ])
  refine wpAnyH_ready (rs := [5]) (by kernel_rfl) (by simp) ?_
  refine AllReadyH.cons (o := ({ dst := some 19, op := Op.call { callee := Callee.value (Operand.func 13), args := #[Operand.tmp 18], argTypes := #[28] }, type := 3, pos := "worlds.go:77", after := #[{ on := 4, ground := Ground.data }], guard := none } : Oper)) rfl (fun Kq hKq => ?_) AllReadyH.nil
  go_simp
  (refine (HST.out _ HB0.out).mono ?_; rintro e w1 ⟨rfl, hb1⟩)
  refine hKq.out _ _ ?_ (fun hHeld => ?_)
  · exact HC5.out _ (HB0.out.trans (hb1.mono HB0.out.size))
  clear hKq Kq
  (try simp only [Act.put, List.setIfInBounds_toArray, List.set_cons_zero, List.set_cons_succ])
  refine wpAnyH_take (i := 11) (oi := ({ dst := some 25, op := Op.build 94 #[(0, Operand.tmp 19), (1, Operand.tmp 20), (2, Operand.tmp 21), (3, Operand.tmp 22), (4, Operand.tmp 23), (5, Operand.tmp 24)], type := 94, pos := "worlds.go:77", after := #[{ on := 5, ground := Ground.data }, { on := 6, ground := Ground.data }, { on := 7, ground := Ground.data }, { on := 8, ground := Ground.data }, { on := 9, ground := Ground.data }, { on := 10, ground := Ground.data }], guard := none } : Oper)) (v := ?v11) rfl (by kernel_rfl) (by kernel_rfl) (by kernel_rfl) (fun _ _ _ h => h) (Or.inl ⟨by rfl, fun w hSw => ?hy11⟩) (by assumption) ?r11
  case hy11 => (try dsimp only at hSw); go_simp; (try with_reducible rfl)
  (try simp only [Act.put, List.setIfInBounds_toArray, List.set_cons_zero, List.set_cons_succ])
  refine wpAnyH_ready (rs := [12]) (by kernel_rfl) (by simp) ?_
  refine AllReadyH.cons (o := ({ dst := some 26, op := Op.call { callee := Callee.value (Operand.func 108), args := #[Operand.tmp 17, Operand.tmp 25], argTypes := #[44, 94] }, type := 29, pos := "worlds.go:77", after := #[{ on := 3, ground := Ground.data }, { on := 11, ground := Ground.data }, { on := 5, ground := Ground.chain }], guard := none } : Oper)) rfl (fun Kq hKq => ?_) AllReadyH.nil
  go_simp
  (refine (HAD.out _ (HB0.out.trans (hb1.mono HB0.out.size))).mono ?_; rintro e w2 ⟨rfl, hl⟩)
  refine hKq.out _ _ ?_ (fun hHeld => ?_)
  · exact HK5.out _ _ (HB0.out.trans (hb1.mono HB0.out.size)) hl
  clear hKq Kq
  (try simp only [Act.put, List.setIfInBounds_toArray, List.set_cons_zero, List.set_cons_succ])
  refine wpAnyH_done (by kernel_rfl) ?_ _

  go_wp2_with fail
  go_end0
  exact ⟨rfl, HTN.out _ _ (HB0.out.trans (hb1.mono HB0.out.size)) hl⟩
theorem note_any {w : World} {base : Nat} {X : Wm} (h : PW w base X) (h1 : X.n ≤ 1000000000) (h2 : X.pn ≤ 1000000000) (hl : X.nD.length ≤ 100000) (hT : Tab w) (t a : Int) (k : Nat) (hk : k < 256) :
    Calls Tryz.prog 17 #[Pw X.wB, .int .i64 t, .int .u8 (k : Int), .int .u32 a] w fun e w' => e = .returned (.tuple #[]) ∧ Noted w w' base X ⟨((X.n + X.pn : Nat) : Int), t, k, a, -1, 0, 0⟩ := by
  have HN := Lib.hid (noteOf_any h h1 h2 hl hT t a (-1) 0 k hk)
  clear h h1 h2 hl hT hk
  go_enter Tryz.func17, Tryz.ntmps17
  go_wp2_with (go_at_call 65; refine HN.out.mono ?_; rintro e w1 ⟨rfl, hn⟩)
  go_end0
  exact ⟨rfl, hn⟩
end Go.Proofs.YtdfnocopakbhoaaGreatDoor.S12
