/- Timers: how one begins, whether it is due, how it fires; the document's, too. -/
import Derived.Test.YtmmpbehgcejfaaaProg
import Derived.WalkKit
import Derived.LoopTactic
import Derived.Outline
import Derived.Lib.Hide
import Derived.Deep.RegionWith
import Derived.Deep.AppendSrc
import Derived.Deep.Upon
import Derived.Carry
import Derived.Defers
import Derived.Recover
import Derived.Laws.Pointers
import Derived.WalkSpells
import Derived.Laws.StructEq
import Derived.Deep.QuietTactic
import Derived.BigQuiet
import Derived.Deep.CutRange

namespace Go.Proofs.Ytmmpbehgcejfaaa
open Go.RowKit

abbrev Tm (a f : Nat) : Value := .agg #[.int .u64 a, .int .u64 f]
/-- A sum that stays at the greatest number of 64 bits. -/
def sat (a b : Nat) : Nat := if a + b ≤ 18446744073709551615 then a + b else 18446744073709551615
/-- A timer in a block of its own. -/
def TmAt (T : TypeId) (w : World) (B a f : Nat) : Prop := w.heap[B]? = some (.cells #[.int .u64 a, .int .u64 f] T (0, 0))
section
variable {T : TypeId} {w w' : World} {B a f : Nat}
theorem TmAt.lt (h : TmAt T w B a f) : B < w.heap.size := (Array.getElem?_eq_some_iff.1 h).1
theorem TmAt.c0 (h : TmAt T w B a f) : w.cell? ⟨B, 0, none⟩ = some (.int .u64 a) := by simp [World.cell?, show w.heap[B]? = _ from h]
theorem TmAt.c1 (h : TmAt T w B a f) : w.cell? ⟨B, 1, none⟩ = some (.int .u64 f) := by simp [World.cell?, show w.heap[B]? = _ from h]
theorem TmAt.z0 (h : TmAt T w B a f) : w.frozen? ⟨B, 0, none⟩ = false := by simp [World.frozen?, show w.heap[B]? = _ from h]
theorem TmAt.z1 (h : TmAt T w B a f) : w.frozen? ⟨B, 1, none⟩ = false := by simp [World.frozen?, show w.heap[B]? = _ from h]
theorem TmAt.new (h : TmAt T w B a f) (b : Below w.heap.size w w') : TmAt T w' B a f := (b.block B h.lt).trans h
theorem TmAt.put (h : TmAt T w B a f) (x y : Nat) : TmAt T ((w.setCell ⟨B, 0, none⟩ (.int .u64 x)).setCell ⟨B, 1, none⟩ (.int .u64 y)) B x y := by
  have h' : w.heap[B]? = _ := h
  simp [TmAt, World.setCell, Array.getElem?_modify, h']
theorem TmAt.made (w : World) (T : TypeId) (a f : Nat) : TmAt T (w.alloc (.cells #[.int .u64 a, .int .u64 f] T)) w.heap.size a f :=
  heap_alloc_new w _
end
theorem below1 (w : World) (o : Obj) : Below w.heap.size w (w.alloc o) := (Below.refl _ _).alloc (Nat.le_refl _) _
theorem begin_any (n : Nat) (w : World) : Calls Try.prog 9 #[.int .u64 n] w fun e w' => e = .returned (Tm n n) ∧ Below w.heap.size w w' := by
  go_enter Try.func9, Try.ntmps9
  go_wp2
  exact bodyPost_ret (v := Tm n n) (by simp [results, Try.results9, go_sem]) rfl ⟨rfl, (Below.refl _ _).alloc (Nat.le_refl _) _⟩
theorem rbegin_any (n : Nat) (w : World) : Calls Try.prog 10 #[.int .u64 n] w fun e w' => e = .returned (Tm n n) ∧ Below w.heap.size w w' := by
  go_enter Try.func10, Try.ntmps10
  go_wp2
  exact bodyPost_ret (v := Tm n n) (by simp [results, Try.results10, go_sem]) rfl ⟨rfl, (Below.refl _ _).alloc (Nat.le_refl _) _⟩
theorem due_any (a f n : Nat) (w : World) : Calls Try.prog 11 #[Tm a f, .int .u64 n] w fun e w' => e = .returned (.bool (decide (a < n))) ∧ Below w.heap.size w w' := by
  go_enter Try.func11, Try.ntmps11
  go_wp2
  go_ret
  exact ⟨rfl, (Below.refl _ _).alloc (Nat.le_refl _) _⟩
theorem rdue_any (a f n : Nat) (w : World) : Calls Try.prog 12 #[Tm a f, .int .u64 n] w fun e w' => e = .returned (.bool (decide (a < n))) ∧ Below w.heap.size w w' := by
  go_enter Try.func12, Try.ntmps12
  go_wp2
  go_ret
  exact ⟨rfl, (Below.refl _ _).alloc (Nat.le_refl _) _⟩
theorem other_any (a f : Nat) (w : World) : Calls Try.prog 8 #[Tm a f] w fun e w' => e = .returned (Tm a f) ∧ Below w.heap.size w w' := by
  go_enter Try.func8, Try.ntmps8
  go_wp2
  exact bodyPost_ret (v := Tm a f) (by simp [results, Try.results8, go_sem]) rfl ⟨rfl, ((Below.refl _ _).alloc (Nat.le_refl _) _).alloc (by simp) _⟩
theorem fix_any (p q : Addr) (x n : Nat) (w : World) (hp : w.cell? p = some (.int .u64 x)) (hz : w.frozen? p = false) (hq : w.cell? q = some (.int .u64 n)) :
    CallsD Try.prog 15 #[.pointer (some p), .pointer (some q)] .returning w fun e u' w' => u' = .returning ∧ e = .returned (.tuple #[]) ∧ w' = if x < n then w.setCell p (.int .u64 (18446744073709551615 : Nat)) else w := by
  by_cases h : x < n
  · rw [if_pos h]
    go_enter_d Try.func15, Try.ntmps15
    go_wp2
    go_end0
    exact ⟨rfl, rfl⟩
  · rw [if_neg h]
    go_enter_d Try.func15, Try.ntmps15
    go_wp2
    go_end0
    exact ⟨rfl, rfl⟩
/-- A sum of 64 bits, as it goes round. -/
def rnd (a b : Nat) : Nat := (a + b) % 18446744073709551616
theorem rnd_wrap (a b : Nat) : IntKind.u64.wrap ((a : Int) + (b : Int)) = ((rnd a b : Nat) : Int) := by
  rw [IntKind.wrap_u64]; unfold rnd; omega
theorem rnd_sat {a b : Nat} (ha : a ≤ 18446744073709551615) (hb : b ≤ 18446744073709551615) : (if rnd a b < a then 18446744073709551615 else rnd a b) = sat a b := by
  unfold rnd sat
  split <;> split <;> omega
theorem end_any (n d : Nat) (hn : n ≤ 18446744073709551615) (hd : d ≤ 18446744073709551615) (w : World) : Calls Try.prog 14 #[.int .u64 n, .int .u64 d] w fun e w' => e = .returned (.int .u64 (sat n d : Nat)) ∧ Below w.heap.size w w' := by
  have hmf : ∀ (fn : Fn) (first cap : Array Value) (w : World), (Instr.makeFunc fn first cap).run Try.prog w = .ok (.func fn first cap) w := fun _ _ _ _ => rfl
  have hr := rnd_wrap n d
  have hs := rnd_sat hn hd
  generalize sat n d = r at *
  generalize rnd n d = s at *
  clear hn hd
  have HS := Lib.hid hs
  clear hs
  go_enter_defers Try.func14, Try.ntmps14
  go_wp2
  refine leaves_cons (f := 15) (args := #[.pointer (some ⟨w.heap.size + 1, 0, none⟩), .pointer (some ⟨w.heap.size, 0, none⟩)]) (by simp) (by simp [go_sem]) ?_
  refine (fix_any ⟨w.heap.size + 1, 0, none⟩ ⟨w.heap.size, 0, none⟩ s n _ (by simp [go_sem]) (by simp [go_sem]) (by simp [go_sem, World.cell?_alloc_lt])).mono ?_
  rintro e u' w'' ⟨rfl, rfl, rfl⟩
  have hb : Below w.heap.size w ((w.alloc (Obj.cells #[Value.int IntKind.u64 n] 22)).alloc (Obj.cells #[Value.int IntKind.u64 s] 22)) := ((Below.refl _ _).alloc (Nat.le_refl _) _).alloc (by simp) _
  by_cases h : s < n
  · have e := HS.out
    rw [if_pos h] at e
    subst e
    rw [if_pos h]
    simp [Leaves, settle, results, Try.results14, go_sem]
    exact ((Below.refl _ _).alloc (Nat.le_refl _) _).alloc (by simp) _
  · have e := HS.out
    rw [if_neg h] at e
    subst e
    rw [if_neg h]
    simp [Leaves, settle, results, Try.results14, go_sem]
    exact hb
/-- What a timer is that was asked, and whether it fired. -/
def firA (a n d : Nat) : Nat := if a < n then sat n d else a
def firF (a f n : Nat) : Nat := if a < n then n else f
/-- Two timers' blocks, made one behind the other: what comes in, and an empty one. -/
theorem two_made (T : TypeId) (w : World) (a f : Nat) : TmAt T ((w.alloc (.cells #[.int .u64 a, .int .u64 f] T)).alloc (.cells #[.int .u64 0, .int .u64 0] T)) w.heap.size a f
    ∧ TmAt T ((w.alloc (.cells #[.int .u64 a, .int .u64 f] T)).alloc (.cells #[.int .u64 0, .int .u64 0] T)) (w.heap.size + 1) 0 0
    ∧ Below w.heap.size w ((w.alloc (.cells #[.int .u64 a, .int .u64 f] T)).alloc (.cells #[.int .u64 0, .int .u64 0] T)) := by
  refine ⟨(TmAt.made w T a f).new (below1 _ _), ?_, (below1 w _).alloc (by simp) _⟩
  have h := TmAt.made (w.alloc (.cells #[.int .u64 a, .int .u64 f] T)) T 0 0
  rw [show (w.alloc (.cells #[.int .u64 a, .int .u64 f] T)).heap.size = w.heap.size + 1 by simp] at h
  exact h
theorem fire_any (a f n d : Nat) (hn : n ≤ 18446744073709551615) (hd : d ≤ 18446744073709551615) (w : World) : Calls Try.prog 6 #[Tm a f, .int .u64 n, .int .u64 d] w fun e w' => e = .returned (.tuple #[Tm (firA a n d) (firF a f n), .bool (decide (a < n))]) ∧ Below w.heap.size w w' := by
  have q := due_any a f n
  have r := end_any n d hn hd
  unfold firA firF
  have Q := Lib.hid q; have R := Lib.hid r
  clear q r
  generalize sat n d = s at *
  clear hn hd
  obtain ⟨a1, a2, hb⟩ := two_made 24 w a f
  by_cases h : a < n
  · rw [if_pos h, if_pos h]
    rw [decide_eq_true h] at Q ⊢
    clear h
    go_enter Try.func6, Try.ntmps6
    go_upto_region 1 with (fail)
    generalize (w.alloc (.cells #[.int .u64 a, .int .u64 f] 24)).alloc (.cells #[.int .u64 0, .int .u64 0] 24) = w1 at *
    have c0 := a1.c0; have c1 := a1.c1
    have A2 := Lib.hid a2; have HB := Lib.hid hb
    clear a1 a2 hb
    go_wp2_with fail
    refine (Q.out _).mono ?_
    rintro e w2 ⟨rfl, b2⟩
    have A3 := Lib.hid (A2.out.new b2)
    have HB2 := Lib.hid (HB.out.trans (b2.mono HB.out.size))
    clear b2
    go_wp2_with fail
    refine (R.out _).mono ?_
    rintro e w3 ⟨rfl, b3⟩
    have a4 := A3.out.new b3
    have HB3 := Lib.hid (HB2.out.trans (b3.mono HB2.out.size))
    have c0 := a4.c0; have c1 := a4.c1; have z0 := a4.z0; have z1 := a4.z1
    have h4 := a4.put s n
    have d0 := h4.c0; have d1 := h4.c1
    have hB : w.heap.size ≤ w.heap.size + 1 := Nat.le_succ _
    clear a4 h4 b3
    go_wp2_with fail
    exact bodyPost_ret (v := .tuple #[Tm s n, .bool true]) (by simp [results, Try.results6, go_sem, d0, d1]) rfl ⟨rfl, (HB3.out.setCell (p := ⟨w.heap.size + 1, 0, none⟩) hB _).setCell (p := ⟨w.heap.size + 1, 1, none⟩) hB _⟩
  · rw [if_neg h, if_neg h]
    rw [decide_eq_false h] at Q ⊢
    clear h
    go_enter Try.func6, Try.ntmps6
    go_upto_region 1 with (fail)
    generalize (w.alloc (.cells #[.int .u64 a, .int .u64 f] 24)).alloc (.cells #[.int .u64 0, .int .u64 0] 24) = w1 at *
    have c0 := a1.c0; have c1 := a1.c1
    have A1 := Lib.hid a1; have A2 := Lib.hid a2; have HB := Lib.hid hb
    clear a1 a2 hb
    go_wp2_with fail
    refine (Q.out _).mono ?_
    rintro e w2 ⟨rfl, b2⟩
    have a4 := A2.out.new b2
    have a5 := A1.out.new b2
    have HB2 := Lib.hid (HB.out.trans (b2.mono HB.out.size))
    clear b2 c0 c1
    have c0 := a4.c0; have c1 := a4.c1; have z0 := a4.z0; have z1 := a4.z1
    have e0 := a5.c0; have e1 := a5.c1
    have h4 := a4.put a f
    have d0 := h4.c0; have d1 := h4.c1
    have hB : w.heap.size ≤ w.heap.size + 1 := Nat.le_succ _
    clear a4 a5 h4
    go_wp2_with fail
    exact bodyPost_ret (v := .tuple #[Tm a f, .bool false]) (by simp [results, Try.results6, go_sem, d0, d1]) rfl ⟨rfl, (HB2.out.setCell (p := ⟨w.heap.size + 1, 0, none⟩) hB _).setCell (p := ⟨w.heap.size + 1, 1, none⟩) hB _⟩
end Go.Proofs.Ytmmpbehgcejfaaa
