/- Links in memory: both sets, the program's and the document's, lie as 192 numbers in a row; who is a thread. -/
import Derived.Test.YtlmgboggnljefaaProg
import Derived.WalkKit
import Derived.LoopTactic
import Derived.Outline
import Derived.Lib.Hide
import Derived.Deep.RegionWith
import Derived.Deep.QuietTactic
import Derived.BigQuiet
import Derived.Laws.StructEq
import Derived.WalkSpells
namespace Go.Proofs.Ytlmgboggnljefaa
open Go.RowKit

/-- Of the blocks that were there only those in S may have turned. -/
structure Turns (S : Nat → Prop) (w w' : World) : Prop where
  os : w'.os = w.os
  tape : w'.tape = w.tape
  output : w'.output = w.output
  size : w.heap.size ≤ w'.heap.size
  block : ∀ k, k < w.heap.size → ¬ S k → w'.heap[k]? = w.heap[k]?
theorem Turns.refl (S : Nat → Prop) (w : World) : Turns S w w := ⟨rfl, rfl, rfl, Nat.le_refl _, fun _ _ _ => rfl⟩
theorem Turns.trans {S T : Nat → Prop} {a b c : World} (h : Turns S a b) (g : Turns T b c) (hs : ∀ k, k < a.heap.size → T k → S k) : Turns S a c :=
  ⟨g.os.trans h.os, g.tape.trans h.tape, g.output.trans h.output, Nat.le_trans h.size g.size, fun k hk hn => (g.block k (Nat.lt_of_lt_of_le hk h.size) (fun ht => hn (hs k hk ht))).trans (h.block k hk hn)⟩
theorem Turns.mono {S T : Nat → Prop} {a b : World} (h : Turns S a b) (hs : ∀ k, k < a.heap.size → S k → T k) : Turns T a b :=
  (Turns.refl T a).trans h hs
theorem Turns.of_below {S : Nat → Prop} {a b : World} (h : Below a.heap.size a b) : Turns S a b :=
  ⟨h.os, h.tape, h.output, h.size, fun k hk _ => h.block k hk⟩
theorem Turns.below {S : Nat → Prop} {a b : World} {B : Nat} (h : Turns S a b) (hB : B ≤ a.heap.size) (hs : ∀ k, k < B → ¬ S k) : Below B a b :=
  ⟨h.os, h.tape, h.output, h.size, fun k hk => h.block k (by omega) (hs k hk)⟩
theorem Turns.alloc {S : Nat → Prop} {a b : World} (h : Turns S a b) (o : Obj) : Turns S a (b.alloc o) :=
  h.trans (T := fun _ => False) ⟨rfl, rfl, rfl, by simp, fun k hk _ => Below.heap_alloc _ _ _ hk⟩ (fun _ _ h => h.elim)
theorem Turns.drew {S : Nat → Prop} {a b : World} (h : Turns S a b) : Turns S a b.drew :=
  ⟨h.os, h.tape, h.output, h.size, h.block⟩
theorem Turns.setCell {S : Nat → Prop} {a b : World} (h : Turns S a b) (p : Addr) (u : Value) (hp : S p.block) : Turns S a (b.setCell p u) :=
  h.trans (T := fun k => k = p.block) ⟨rfl, rfl, rfl, by simp [World.setCell], fun k _ hn => Below.heap_setCell _ _ _ _ hn⟩ (fun k _ e => e ▸ hp)
theorem Turns.setCells {S : Nat → Prop} {a b : World} (h : Turns S a b) (g : Nat) (hg : S g) : ∀ (vs : List Value) (o : Nat), Turns S a (b.setCells g o vs)
  | [], _ => h
  | v :: r, o => by
    have h1 := h.setCell ⟨g, o, none⟩ v hg
    exact Turns.setCells h1 g hg r (o + 1)
theorem Turns.cell {S : Nat → Prop} {a b : World} (h : Turns S a b) {g o : Nat} (hg : g < a.heap.size) (hn : ¬ S g) : b.cell? ⟨g, o, none⟩ = a.cell? ⟨g, o, none⟩ :=
  World.cell?_of_block (a := ⟨g, o, none⟩) (h.block g hg hn)
theorem Turns.frozen {S : Nat → Prop} {a b : World} (h : Turns S a b) {g o : Nat} (hg : g < a.heap.size) (hn : ¬ S g) : b.frozen? ⟨g, o, none⟩ = a.frozen? ⟨g, o, none⟩ :=
  World.frozen?_of_block (a := ⟨g, o, none⟩) (h.block g hg hn)

abbrev Pt (B : Nat) : Value := .pointer (some ⟨B, 0, none⟩)
def iv (d : Nat) : Value := .int .i64 (d : Int)
/-- All links of a set: 192 numbers, three a thread (one more than they say). -/
abbrev Lk := Nat → Nat
structure Has (w : World) (B : Nat) (S : Lk) : Prop where
  lt : B < w.heap.size
  cell : ∀ i, i < 192 → w.cell? ⟨B, i, none⟩ = some (.int .i64 (S i : Nat))
  froz : ∀ i, i < 192 → w.frozen? ⟨B, i, none⟩ = false
  le : ∀ i, S i ≤ 64
theorem Has.kept {T : Nat → Prop} {w w' : World} {B : Nat} {S : Lk} (h : Has w B S) (t : Turns T w w') (hB : ¬ T B) : Has w' B S :=
  ⟨Nat.lt_of_lt_of_le h.lt t.size, fun i hi => (t.cell h.lt hB).trans (h.cell i hi), fun i hi => (t.frozen h.lt hB).trans (h.froz i hi), h.le⟩
theorem Has.new {w w' : World} {B : Nat} {S : Lk} (h : Has w B S) (b : Below w.heap.size w w') : Has w' B S :=
  h.kept (Turns.of_below (S := fun _ => False) b) (fun e => e)
theorem Has.drew {w : World} {B : Nat} {S : Lk} (h : Has w B S) : Has w.drew B S := ⟨h.lt, h.cell, h.froz, h.le⟩
def upd (S : Lk) (i v : Nat) : Lk := fun j => if j = i then v else S j
theorem Has.set {w : World} {B : Nat} {S : Lk} (h : Has w B S) {i v : Nat} (hi : i < 192) (hv : v ≤ 64) : Has (w.setCell ⟨B, i, none⟩ (.int .i64 (v : Nat))) B (upd S i v) := by
  refine ⟨by simpa [World.setCell] using h.lt, fun j hj => ?_, fun j hj => by rw [World.frozen?_setCell]; exact h.froz j hj, fun j => ?_⟩
  · unfold upd
    by_cases e : j = i
    · subst e
      rw [if_pos rfl, World.cell?_setCell_same _ _ _ (h.cell j hj)]
    · rw [if_neg e, World.cell?_setCell_other _ _ _ _ (by intro e'; injection e' with _ e2; exact e e2.symm)]
      exact h.cell j hj
  · unfold upd
    split
    · exact hv
    · exact h.le j

theorem has_yes (B t : Nat) (ht : t < 64) (w : World) : Calls Try.prog 19 #[Pt B, .int .i64 (t : Int)] w fun e w' => e = .returned (.bool true) ∧ w = w' := by
  have h1 : decide ((0 : Int) ≤ (t : Int)) = true := by simp
  have h2 : decide ((t : Int) < 64) = true := by simp; omega
  clear ht
  go_enter Try.func19, Try.ntmps19
  go_wp2
  go_ret
  exact ⟨rfl, rfl⟩
def notT (x : Int) : Prop := ¬ (0 ≤ x ∧ x < 64)
theorem has_no (B : Nat) (x : Int) (hx : notT x) (w : World) : Calls Try.prog 19 #[Pt B, .int .i64 x] w fun e w' => e = .returned (.bool false) ∧ w = w' := by
  unfold notT at hx
  by_cases h : 0 ≤ x
  · have h1 : decide ((0 : Int) ≤ x) = true := by simpa using h
    have h2 : decide (x < 64) = false := by simp; omega
    clear hx h
    go_enter Try.func19, Try.ntmps19
    go_wp2
    go_ret
    exact ⟨rfl, rfl⟩
  · have h1 : decide ((0 : Int) ≤ x) = false := by simpa using h
    clear hx h
    go_enter Try.func19, Try.ntmps19
    go_wp2
    go_ret
    exact ⟨rfl, rfl⟩
theorem has_nil (x : Int) (w : World) : Calls Try.prog 19 #[.pointer none, .int .i64 x] w fun e w' => e = .returned (.bool false) ∧ w = w' := by
  go_enter Try.func19, Try.ntmps19
  go_wp2
  go_ret
  exact ⟨rfl, rfl⟩
theorem is_yes (t : Nat) (ht : t < 64) (w : World) : Calls Try.prog 20 #[.int .i64 (t : Int)] w fun e w' => e = .returned (.bool true) ∧ w = w' := by
  have h1 : decide ((0 : Int) ≤ (t : Int)) = true := by simp
  have h2 : decide ((t : Int) ≤ 63) = true := by simp; omega
  clear ht
  go_enter Try.func20, Try.ntmps20
  go_wp2
  go_ret
  exact ⟨rfl, rfl⟩
theorem is_no (x : Int) (hx : notT x) (w : World) : Calls Try.prog 20 #[.int .i64 x] w fun e w' => e = .returned (.bool false) ∧ w = w' := by
  unfold notT at hx
  by_cases h : 0 ≤ x
  · have h1 : decide ((0 : Int) ≤ x) = true := by simpa using h
    have h2 : decide (x ≤ 63) = false := by simp; omega
    clear hx h
    go_enter Try.func20, Try.ntmps20
    go_wp2
    go_ret
    exact ⟨rfl, rfl⟩
  · have h1 : decide ((0 : Int) ≤ x) = false := by simpa using h
    clear hx h
    go_enter Try.func20, Try.ntmps20
    go_wp2
    go_ret
    exact ⟨rfl, rfl⟩
end Go.Proofs.Ytlmgboggnljefaa
