/- Texts of this seat, one behind the other. -/
import Derived.Test.YthafnphpcdbnlaaGreatDoorMLawNew1
import Derived.Test.YthafnphpcdbnlaaGreatDoorMLawNew3
import Derived.Test.YthafnphpcdbnlaaGreatDoorRows
import Derived.Test.YthafnphpcdbnlaaGreatDoorTie
import Derived.Test.YthafnphpcdbnlaaGreatDoorCards
import Derived.Lib.SmallJoins
import Derived.ProofKit
import Derived.LaidMore
import Derived.OpenShut
import Derived.Stop.Joined
import Derived.SevenTiedAt
set_option linter.unusedVariables false
set_option linter.unusedSimpArgs false
set_option linter.unusedVariables false
set_option linter.unusedSimpArgs false
namespace Go.Proofs.YthafnphpcdbnlaaGreatDoor
open Go.ChangeShapes Go.WideShapes Go.ChangeAt Go.RowKit Go.Lib
open Go.Proofs.YthafnphpcdbnlaaGreatDoor.S11

theorem own : ownKnob Tryz.prog.godebug = none := by kernel_rfl
abbrev L4 : List (String × DataW Unit) := [("layby/notes.names", Rows.laid_layby_notes_names)]
theorem door_met (os : Os) (args : Array Value) : laidMetH Tryz.prog L4 ((World.doorLaid Tryz.prog 400 os).forCall (fun _ _ => 0) ⟨#[], args, []⟩).memory :=
  laidMetH_of_parts3 (fuel := 8) (laidMet_of_run' 8 (by kernel_rfl) (by kernel_rfl)) (by kernel_rfl) (by kernel_rfl)
/-- One listed variable's cell, off its datum. -/
theorem laid_cell {n : String} {d : DataW Unit} {W : World} {g t : Nat} (hg : Tryz.prog.globalNamed n = some g) (ht : (Tryz.prog.globals[g]?).map (·.type) = some t) :
    ∀ (l : List (String × DataW Unit)) (ps : List MemPlace), DataW.LaidVars Tryz.prog W l ps → (n, d) ∈ l →
    ∃ (cs : Array Value) (fuel : Nat) (p : List MemPlace), W.var? Tryz.prog n = some cs ∧ DataW.trod (fun _ => ()) Tryz.prog W 0 (fun _ => true) false fuel t cs.toList = some (d, p) ∧ ∀ k o v, litAt Tryz.prog k t d o = some v → cs[o]? = some v
  | [], _, _, h => by cases h
  | (n', d') :: r, ps, hL, h => by
    obtain ⟨g', t', cs, fuel, p, q, hg', ht', hv, hd, hr, _⟩ := hL
    rcases List.mem_cons.1 h with h | h
    · cases h
      obtain rfl := Option.some.inj (hg.symm.trans hg')
      obtain rfl := Option.some.inj (ht.symm.trans ht')
      exact ⟨cs, fuel, p, hv, hd, fun k o v hl => by
        have := litAt_cell k fuel t cs.toList d p o v hd hl
        simpa using this⟩
    · exact laid_cell hg ht r q hr h
theorem lit_names : ∀ (k : Nat) (_ : k < 38), litAt Tryz.prog 6 221 (Rows.laid_layby_notes_names (H := Unit)) k = some (.string (nmS k))
  | 0, _ => by kernel_rfl
  | 1, _ => by kernel_rfl
  | 2, _ => by kernel_rfl
  | 3, _ => by kernel_rfl
  | 4, _ => by kernel_rfl
  | 5, _ => by kernel_rfl
  | 6, _ => by kernel_rfl
  | 7, _ => by kernel_rfl
  | 8, _ => by kernel_rfl
  | 9, _ => by kernel_rfl
  | 10, _ => by kernel_rfl
  | 11, _ => by kernel_rfl
  | 12, _ => by kernel_rfl
  | 13, _ => by kernel_rfl
  | 14, _ => by kernel_rfl
  | 15, _ => by kernel_rfl
  | 16, _ => by kernel_rfl
  | 17, _ => by kernel_rfl
  | 18, _ => by kernel_rfl
  | 19, _ => by kernel_rfl
  | 20, _ => by kernel_rfl
  | 21, _ => by kernel_rfl
  | 22, _ => by kernel_rfl
  | 23, _ => by kernel_rfl
  | 24, _ => by kernel_rfl
  | 25, _ => by kernel_rfl
  | 26, _ => by kernel_rfl
  | 27, _ => by kernel_rfl
  | 28, _ => by kernel_rfl
  | 29, _ => by kernel_rfl
  | 30, _ => by kernel_rfl
  | 31, _ => by kernel_rfl
  | 32, _ => by kernel_rfl
  | 33, _ => by kernel_rfl
  | 34, _ => by kernel_rfl
  | 35, _ => by kernel_rfl
  | 36, _ => by kernel_rfl
  | 37, _ => by kernel_rfl
  | k + 38, h => by omega
theorem of_laid {W : World} (h : laidMetH Tryz.prog L4 W) : Tab W := by
  rw [MakeChecks.laidMetH_plain _ _ _ (by kernel_rfl)] at h
  obtain ⟨ps, hL, _⟩ := h
  have gN : Tryz.prog.globalNamed "layby/notes.names" = some 0 := by kernel_rfl
  obtain ⟨cs, _, _, hv, _, hc⟩ := laid_cell (n := "layby/notes.names") (d := Rows.laid_layby_notes_names) (g := 0) (t := 221) gN (by kernel_rfl) L4 ps hL (by simp)
  have cell : ∀ o v, litAt Tryz.prog 6 221 (Rows.laid_layby_notes_names (H := Unit)) o = some v → W.cell? ⟨0, o, none⟩ = some v := fun o v hl => by
    rw [World.var?_cell gN hv o]; exact hc 6 o v hl
  refine ⟨?_, fun k hk => cell _ _ (lit_names k hk)⟩
  have := cell _ _ (lit_names 0 (by omega))
  rcases Nat.eq_zero_or_pos W.heap.size with h | h
  · unfold World.cell? at this
    rw [Array.getElem?_eq_none (by simp [h])] at this
    simp at this
  · exact h
end Go.Proofs.YthafnphpcdbnlaaGreatDoor
set_option linter.unusedVariables false
set_option linter.unusedSimpArgs false
namespace Go.Proofs.YthafnphpcdbnlaaGreatDoor.S3
open Go.Proofs.YthafnphpcdbnlaaGreatDoor
open Go.RowKit

/-- Of the blocks that were there only those in S may have turned. -/
structure Turns (S : Nat → Prop) (w w' : World) : Prop where
  os : w'.os = w.os
  tape : w'.tape = w.tape
  output : w'.output = w.output
  size : w.heap.size ≤ w'.heap.size
  block : ∀ k, k < w.heap.size → ¬ S k → w'.heap[k]? = w.heap[k]?
theorem Turns.refl (S : Nat → Prop) (w : World) : Turns S w w := ⟨rfl, rfl, rfl, Nat.le_refl _, fun _ _ _ => rfl⟩
theorem Turns.trans {S T : Nat → Prop} {a b c : World} (h : Turns S a b) (g : Turns T b c) (hs : ∀ k, k < a.heap.size → T k → S k) : Turns S a c :=
  ⟨g.os.trans h.os, g.tape.trans h.tape, g.output.trans h.output, Nat.le_trans h.size g.size, fun k hk hn => (g.block k (Nat.lt_of_lt_of_le hk h.size) (fun ht => hn (hs k hk ht))).trans (h.block k hk hn)⟩
theorem Turns.mono {S T : Nat → Prop} {a b : World} (h : Turns S a b) (hs : ∀ k, k < a.heap.size → S k → T k) : Turns T a b :=
  (Turns.refl T a).trans h hs
theorem Turns.of_below {S : Nat → Prop} {a b : World} (h : Below a.heap.size a b) : Turns S a b :=
  ⟨h.os, h.tape, h.output, h.size, fun k hk _ => h.block k hk⟩
theorem Turns.below {S : Nat → Prop} {a b : World} {B : Nat} (h : Turns S a b) (hB : B ≤ a.heap.size) (hs : ∀ k, k < B → ¬ S k) : Below B a b :=
  ⟨h.os, h.tape, h.output, h.size, fun k hk => h.block k (by omega) (hs k hk)⟩
theorem Turns.alloc {S : Nat → Prop} {a b : World} (h : Turns S a b) (o : Obj) : Turns S a (b.alloc o) :=
  h.trans (T := fun _ => False) ⟨rfl, rfl, rfl, by simp, fun k hk _ => Below.heap_alloc _ _ _ hk⟩ (fun _ _ h => h.elim)
theorem Turns.drew {S : Nat → Prop} {a b : World} (h : Turns S a b) : Turns S a b.drew :=
  ⟨h.os, h.tape, h.output, h.size, h.block⟩
theorem Turns.setCell {S : Nat → Prop} {a b : World} (h : Turns S a b) (p : Addr) (u : Value) (hp : S p.block) : Turns S a (b.setCell p u) :=
  h.trans (T := fun k => k = p.block) ⟨rfl, rfl, rfl, by simp [World.setCell], fun k _ hn => Below.heap_setCell _ _ _ _ hn⟩ (fun k _ e => e ▸ hp)
theorem Turns.setCells {S : Nat → Prop} {a b : World} (h : Turns S a b) (g : Nat) (hg : S g) : ∀ (vs : List Value) (o : Nat), Turns S a (b.setCells g o vs)
  | [], _ => h
  | v :: r, o => by
    have h1 := h.setCell ⟨g, o, none⟩ v hg
    exact Turns.setCells h1 g hg r (o + 1)
theorem Turns.cell {S : Nat → Prop} {a b : World} (h : Turns S a b) {g o : Nat} (hg : g < a.heap.size) (hn : ¬ S g) : b.cell? ⟨g, o, none⟩ = a.cell? ⟨g, o, none⟩ :=
  World.cell?_of_block (a := ⟨g, o, none⟩) (h.block g hg hn)
theorem Turns.frozen {S : Nat → Prop} {a b : World} (h : Turns S a b) {g o : Nat} (hg : g < a.heap.size) (hn : ¬ S g) : b.frozen? ⟨g, o, none⟩ = a.frozen? ⟨g, o, none⟩ :=
  World.frozen?_of_block (a := ⟨g, o, none⟩) (h.block g hg hn)

theorem cell_row {w : World} {B : Nat} {cs : Array Value} {T : TypeId} (h : w.heap[B]? = some (.cells cs T (0, 0))) (o : Nat) : w.cell? ⟨B, o, none⟩ = cs[o]? := by
  simp [World.cell?, h]
theorem froz_row {w : World} {B : Nat} {cs : Array Value} {T : TypeId} (h : w.heap[B]? = some (.cells cs T (0, 0))) (o : Nat) : w.frozen? ⟨B, o, none⟩ = false := by
  simp [World.frozen?, h]
theorem row_set {w : World} {B : Nat} {cs : Array Value} {T : TypeId} (h : w.heap[B]? = some (.cells cs T (0, 0))) (o : Nat) (v : Value) : (w.setCell ⟨B, o, none⟩ v).heap[B]? = some (.cells (cs.setIfInBounds o v) T (0, 0)) := by
  simp [World.setCell, Array.getElem?_modify, h]

/-- A number as it lies in a cell. -/
def uv (d : Nat) : Value := .int .u64 (d : Int)
/-- Numbers that stand from an address on. -/
def Lies (w : World) (g o : Nat) (D : List Nat) : Prop := ∀ i, i < D.length → w.cell? ⟨g, o + i, none⟩ = some (uv D[i]!)
/-- A list that is read: its memory lies below a base. -/
def Rd (w : World) (base : Nat) (A : Option Addr) (D : List Nat) : Prop := 0 < D.length → ∃ g o, A = some ⟨g, o, none⟩ ∧ g < base ∧ Lies w g o D
/-- A list of a call's own: its memory lies from base on, and may be written. -/
def Row (w : World) (base : Nat) (s : Value) (D : List Nat) : Prop :=
  ∃ A cap, s = .slice A D.length cap ∧ D.length ≤ cap ∧ cap ≤ maxLen ∧ (A = none → cap = 0) ∧
    ∀ ad, A = some ad → ∃ g o, ad = ⟨g, o, none⟩ ∧ base ≤ g ∧ g < w.heap.size ∧ Lies w g o D ∧ ∀ j, j < cap → (w.cell? ⟨g, o + j, none⟩).isSome = true ∧ w.frozen? ⟨g, o + j, none⟩ = false

theorem Rd.below {w w' : World} {base b : Nat} {A : Option Addr} {D : List Nat} (h : Rd w base A D) (hb : Below b w w') (hbb : base ≤ b) : Rd w' base A D := fun hp => by
  obtain ⟨g, o, e, hg, hl⟩ := h hp
  exact ⟨g, o, e, hg, fun i hi => (hb.cell (p := ⟨g, o + i, none⟩) (by show g < b; omega)).trans (hl i hi)⟩
theorem Rd.more {w : World} {base b : Nat} {A : Option Addr} {D : List Nat} (h : Rd w base A D) (hb : base ≤ b) : Rd w b A D := fun hp => by
  obtain ⟨g, o, e, hg, hl⟩ := h hp
  exact ⟨g, o, e, by omega, hl⟩
theorem Rd.kept {S : Nat → Prop} {w w' : World} {base : Nat} {A : Option Addr} {D : List Nat} (h : Rd w base A D) (t : Turns S w w') (hb : base ≤ w.heap.size) (hs : ∀ k, k < base → ¬ S k) : Rd w' base A D := fun hp => by
  obtain ⟨g, o, e, hg, hl⟩ := h hp
  exact ⟨g, o, e, hg, fun i hi => (t.cell (by omega) (hs g hg)).trans (hl i hi)⟩
theorem getD_take {D : List Nat} {k i : Nat} (h : i < (D.take k).length) : (D.take k)[i]! = D[i]! := by
  have h2 : i < D.length := by rw [List.length_take] at h; omega
  rw [getElem!_pos _ i h, getElem!_pos _ i h2, List.getElem_take]
theorem Rd.take {w : World} {base : Nat} {A : Option Addr} {D : List Nat} (h : Rd w base A D) (k : Nat) : Rd w base A (D.take k) := fun hp => by
  rw [List.length_take] at hp
  obtain ⟨g, o, e, hg, hl⟩ := h (by omega)
  refine ⟨g, o, e, hg, fun i hi => ?_⟩
  rw [getD_take hi]
  rw [List.length_take] at hi
  exact hl i (by omega)
theorem Rd.nil {w : World} {base : Nat} {A : Option Addr} : Rd w base A [] := fun h => by simp at h

theorem Row.drew {w : World} {base : Nat} {s : Value} {D : List Nat} (h : Row w base s D) : Row w.drew base s D := h
theorem Rd.drew {w : World} {base : Nat} {A : Option Addr} {D : List Nat} (h : Rd w base A D) : Rd w.drew base A D := h
theorem row_nil (w : World) (base : Nat) : Row w base (.slice none 0 0) [] :=
  ⟨none, 0, rfl, Nat.le_refl _, Nat.zero_le _, fun _ => rfl, fun _ e => by cases e⟩
theorem Row.keep {S : Nat → Prop} {w w' : World} {base : Nat} {s : Value} {D : List Nat} (h : Row w base s D) (t : Turns S w w') (hs : ∀ g, s.ownBlock = some g → ¬ S g) : Row w' base s D := by
  obtain ⟨A, cap, rfl, h1, h2, h3, h4⟩ := h
  refine ⟨A, cap, rfl, h1, h2, h3, fun ad e => ?_⟩
  obtain ⟨g, o, rfl, hb, hg, hl, hc⟩ := h4 ad e
  have hn := hs g (by rw [e]; rfl)
  exact ⟨g, o, rfl, hb, Nat.lt_of_lt_of_le hg t.size, fun i hi => (t.cell hg hn).trans (hl i hi), fun j hj => ⟨by rw [t.cell hg hn]; exact (hc j hj).1, (t.frozen hg hn).trans (hc j hj).2⟩⟩
theorem Row.lt {w : World} {base : Nat} {s : Value} {D : List Nat} (h : Row w base s D) : ∀ g, s.ownBlock = some g → base ≤ g ∧ g < w.heap.size := by
  obtain ⟨A, cap, rfl, h1, h2, h3, h4⟩ := h
  intro g hg
  cases A with
  | none => simp [Value.ownBlock] at hg
  | some ad =>
    obtain ⟨g', o, rfl, hb, hlt, _⟩ := h4 ad rfl
    have : g' = g := by simpa [Value.ownBlock] using hg
    subst this
    exact ⟨hb, hlt⟩
theorem Row.rd {w : World} {base : Nat} {A : Option Addr} {n cap : Nat} {D : List Nat} (h : Row w base (.slice A n cap) D) : Rd w w.heap.size A D := fun hp => by
  obtain ⟨A', cap', e, h1, h2, h3, h4⟩ := h
  cases e
  cases A with
  | none => have := h3 rfl; omega
  | some ad =>
    obtain ⟨g, o, rfl, hb, hlt, hl, _⟩ := h4 ad rfl
    exact ⟨g, o, rfl, hlt, hl⟩
/-- The first one is drawn: what the list is then. -/
theorem Row.tail {w : World} {base : Nat} {s : Value} {d : Nat} {D : List Nat} (h : Row w base s (d :: D)) :
    ∃ g o cap, s = .slice (some ⟨g, o, none⟩) (D.length + 1) cap ∧ w.cell? ⟨g, o, none⟩ = some (uv d) ∧ D.length + 1 ≤ cap ∧ cap ≤ maxLen ∧
      Row w base (.slice (some ⟨g, if cap = 1 then o else o + 1, none⟩) D.length (cap - 1)) D := by
  obtain ⟨A, cap, rfl, h1, h2, h3, h4⟩ := h
  simp only [List.length_cons] at h1 ⊢
  cases A with
  | none => have := h3 rfl; omega
  | some ad =>
    obtain ⟨g, o, rfl, hb, hlt, hl, hc⟩ := h4 ad rfl
    refine ⟨g, o, cap, rfl, ?_, h1, h2, _, _, rfl, by omega, by omega, (fun e => by cases e), fun ad e => ?_⟩
    · have := hl 0 (by simp)
      simpa using this
    · cases e
      refine ⟨g, _, rfl, hb, hlt, ?_, ?_⟩
      · intro i hi
        rw [if_neg (by omega)]
        have := hl (i + 1) (by simp; omega)
        rw [show o + (i + 1) = o + 1 + i by omega] at this
        simpa using this
      · intro j hj
        rw [if_neg (by omega), show o + 1 + j = o + (j + 1) by omega]
        exact hc (j + 1) (by omega)

theorem info23p : (Tryz.prog.info? 22).map (fun i => (i.zero, i.size, i.bytes)) = some (some (.int .u64 0), 1, 8) := by kernel_rfl
theorem info23 : ∃ i, Tryz.prog.info? 22 = some i ∧ i.zero = some (.int .u64 0) ∧ i.size = 1 ∧ i.bytes = 8 := by
  have h := info23p
  cases e : Tryz.prog.info? 22 with
  | none => rw [e] at h; cases h
  | some i =>
    rw [e] at h
    simp at h
    exact ⟨i, rfl, h.1, h.2.1, h.2.2⟩
theorem len_uv (D : List Nat) : (D.map uv).length = D.length := List.length_map ..
theorem one_uv (D : List Nat) : ∀ u ∈ D.map uv, u.oneCell' = true := fun u hu => by
  obtain ⟨_, _, rfl⟩ := List.mem_map.1 hu
  rfl
theorem get_uv {D : List Nat} {j : Nat} (h : j < D.length) : (D.map uv)[j]? = some (uv D[j]!) := by
  rw [List.getElem?_map, List.getElem?_eq_getElem h, getElem!_pos D j h]; rfl
theorem add_none (b o n : Nat) : (⟨b, o, none⟩ : Addr).add n = ⟨b, o + n, none⟩ := by unfold Addr.add; split <;> simp_all
theorem Rd.src {w : World} {base : Nat} {A : Option Addr} {E : List Nat} (h : Rd w base A E) (c : Nat) : Src Tryz.prog 1 23 (.slice A E.length c) E.length (E.map uv) w := by
  cases E with
  | nil =>
    cases A with
    | none => exact Src.ofNil w Tryz.underlying23 c
    | some ad => exact Src.ofSlice w Tryz.underlying23 ad 0 c [] rfl (fun j u e => by simp at e) (fun u hu => by cases hu)
  | cons d D =>
    obtain ⟨g, o, rfl, _, hl⟩ := h (by simp)
    refine Src.ofSlice w Tryz.underlying23 _ _ c _ (by simp) (fun j u e => ?_) (one_uv _)
    have hj : j < (d :: D).length := by
      have := (List.getElem?_eq_some_iff.1 e).1
      simpa using this
    rw [add_none, hl j hj, ← e, get_uv hj]
theorem get_app {D E : List Nat} {i : Nat} (h : i < D.length) : (D ++ E)[i]! = D[i]! := by
  rw [getElem!_pos _ i (by simp; omega), getElem!_pos _ i h, List.getElem_append_left h]
theorem get_app2 {D E : List Nat} {i : Nat} (h : D.length ≤ i) (h2 : i < D.length + E.length) : (D ++ E)[i]! = E[i - D.length]! := by
  rw [getElem!_pos _ i (by simp; omega), getElem!_pos _ (i - D.length) (by omega), List.getElem_append_right h]
theorem some_setCells (b : Nat) : ∀ (vs : List Value) (o : Nat) (w : World) (x : Addr), (w.cell? x).isSome = true → ((w.setCells b o vs).cell? x).isSome = true
  | [], _, _, _, h => h
  | v :: r, o, w, x, h => by
    refine some_setCells b r (o + 1) _ x ?_
    by_cases e : (⟨b, o, none⟩ : Addr) = x
    · subst e
      obtain ⟨u, hu⟩ := Option.isSome_iff_exists.1 h
      rw [World.cell?_setCell_same _ _ _ hu]; rfl
    · rw [World.cell?_setCell_other _ _ _ _ (fun e' => e (by rw [e']))]; exact h
theorem size_setCells' (b : Nat) : ∀ (vs : List Value) (o : Nat) (w : World), (w.setCells b o vs).heap.size = w.heap.size
  | [], _, _ => rfl
  | v :: r, o, w => by rw [World.setCells, size_setCells' b r]; simp [World.setCell]
/-- More behind: in the list's own memory, or in new memory. -/
theorem row_append {w : World} {base : Nat} {s : Value} {D : List Nat} (h : Row w base s D) (hbase : base ≤ w.heap.size) {b2 : Nat} {A : Option Addr} {E : List Nat} (c : Nat) (hr : Rd w b2 A E) (hlen : D.length + E.length ≤ 1000000) (ty : TypeId) :
    ∃ s' w', (Builtin.append_ #[23, 23] ty #[s, .slice A E.length c]).run Tryz.prog w = .ok s' w' ∧ Row w' base s' (D ++ E) ∧ Turns (fun k => s.ownBlock = some k) w w' ∧ (s'.ownBlock = s.ownBlock ∨ s'.ownBlock = some w.heap.size) := by
  obtain ⟨i, hi, hz, hsz, hby⟩ := info23
  obtain ⟨B, cap, rfl, h1, h2, h3, h4⟩ := h
  have hs := hr.src c
  rw [← hsz] at hs
  by_cases hE : E.length = 0
  · obtain rfl : E = [] := List.eq_nil_of_length_eq_zero hE
    refine ⟨_, w, run_append_nothing w 23 23 ty 22 i Tryz.underlying23 hi B D.length cap h1 _ hs, ?_, Turns.refl _ _, .inl rfl⟩
    rw [List.append_nil]
    exact ⟨B, cap, rfl, h1, h2, h3, h4⟩
  · have hmax : D.length + E.length ≤ maxLen := by unfold maxLen; omega
    by_cases hroom : D.length + E.length ≤ cap
    · cases B with
      | none => have := h3 rfl; omega
      | some ad =>
        obtain ⟨g, o, rfl, hb, hlt, hl, hc⟩ := h4 ad rfl
        have hlu := len_uv E
        have hrun := run_append_room_src (P := Tryz.prog) w 23 23 ty 22 i Tryz.underlying23 hi g o D.length cap _ E.length (E.map uv) hs hroom
          (fun j hj => by rw [hsz, Nat.mul_one, Nat.add_assoc]; exact (hc (D.length + j) (by omega)).1) (fun j hj => by rw [hsz, Nat.mul_one, Nat.add_assoc]; exact (hc (D.length + j) (by omega)).2)
        rw [hsz, Nat.mul_one] at hrun
        refine ⟨_, _, hrun, ?_, Turns.setCells (S := fun k => (Value.slice (some ⟨g, o, none⟩) D.length cap).ownBlock = some k) (Turns.refl _ w) g rfl _ _, .inl rfl⟩
        refine ⟨some ⟨g, o, none⟩, cap, by rw [List.length_append], by rw [List.length_append]; exact hroom, h2, (fun e => by cases e), fun ad e => ?_⟩
        cases e
        refine ⟨g, o, rfl, hb, by rw [size_setCells']; exact hlt, fun k hk => ?_, fun j hj => ⟨some_setCells _ _ _ _ _ (hc j hj).1, by rw [World.frozen?_setCells]; exact (hc j hj).2⟩⟩
        rw [List.length_append] at hk
        by_cases hkd : k < D.length
        · rw [World.cell?_setCells_out _ _ _ _ _ (fun _ _ => .inl (by show o + k < _; omega)), get_app hkd]
          exact hl k hkd
        · have hin := World.cell?_setCells_in g (E.map uv) (o + D.length) w (fun j hj => by rw [Nat.add_assoc]; exact (hc (D.length + j) (by omega)).1) (k - D.length) (by omega)
          rw [show o + D.length + (k - D.length) = o + k by omega] at hin
          rw [hin, get_app2 (by omega) hk]
          have := get_uv (D := E) (j := k - D.length) (by omega)
          rw [List.getElem?_eq_getElem (by omega)] at this
          exact this
    · have hold : (Builtin.firstCells i.size D.length (.slice B D.length cap)).run Tryz.prog w.drew = .ok (D.map uv).toArray w.drew := by
        have hr2 : Rd w.drew w.heap.size B D := Row.rd (w := w.drew) (base := base) (cap := cap) ⟨B, cap, rfl, h1, h2, h3, h4⟩
        have := (hr2.src cap).cells
        rwa [hsz]
      have hlu := len_uv E
      have hld := len_uv D
      have hge := grownCap_ge w (D.length + E.length) cap 22
      have hcm := grownCap_le_maxLen w (D.length + E.length) cap 22 hmax
      have hrun := run_append_grow_src (P := Tryz.prog) w 23 23 ty 22 i (.int .u64 0) Tryz.underlying23 hi hz B D.length cap (D.map uv) hold _ E.length (E.map uv) hs (by omega) (by omega) (growslice_fits (by omega) (by rw [hby]; omega))
      have hnew := heap_alloc_new w.drew (.cells ((D.map uv ++ E.map uv).toArray ++ Builtin.zeroCells (Value.int .u64 0).cells (grownCap w (D.length + E.length) cap 22 - (D.length + E.length))) 22)
      rw [show w.drew.heap.size = w.heap.size from rfl] at hnew
      refine ⟨_, _, hrun, ?_, ((Turns.refl _ w).drew).alloc _, .inr rfl⟩
      generalize grownCap w (D.length + E.length) cap 22 = cc at *
      have hzs : (Builtin.zeroCells (Value.int .u64 0).cells (cc - (D.length + E.length))).size = cc - (D.length + E.length) := by rw [size_zeroCells]; simp [Value.cells]
      refine ⟨_, cc, by rw [List.length_append], by rw [List.length_append]; exact hge, hcm, (fun e => by cases e), fun ad e => ?_⟩
      cases e
      refine ⟨w.heap.size, 0, rfl, hbase, by simp, fun k hk => ?_, fun j hj => ⟨?_, froz_row hnew _⟩⟩
      · rw [cell_row hnew, Nat.zero_add, ← List.map_append]
        rw [List.length_append] at hk
        rw [Array.getElem?_append_left (by simp; omega)]
        simp only [List.getElem?_toArray]
        exact get_uv (by simp; omega)
      · rw [cell_row hnew, Nat.zero_add]
        have : j < ((D.map uv ++ E.map uv).toArray ++ Builtin.zeroCells (Value.int .u64 0).cells (cc - (D.length + E.length))).size := by
          rw [Array.size_append, hzs]; simp; omega
        rw [Array.getElem?_eq_getElem this]; rfl
end Go.Proofs.YthafnphpcdbnlaaGreatDoor.S3
set_option linter.unusedVariables false
set_option linter.unusedSimpArgs false
namespace Go.Proofs.YthafnphpcdbnlaaGreatDoor.S12
open Go.Proofs.YthafnphpcdbnlaaGreatDoor Go.Proofs.YthafnphpcdbnlaaGreatDoor.S11
open Go.RowKit

/-- A thing in memory: what holds of it, which blocks are its own. -/
structure Part where
  ok : World → Prop
  fp : Nat → Prop
  lt : ∀ w, ok w → ∀ k, fp k → k < w.heap.size
  kept : ∀ (S : Nat → Prop) w w', ok w → Turns S w w' → (∀ k, fp k → ¬ S k) → ok w'
/-- Things side by side, from a base on. -/
structure Parts (w : World) (base : Nat) (l : List Part) : Prop where
  size : base ≤ w.heap.size
  ok : ∀ (i : Nat) (p : Part), l[i]? = some p → p.ok w
  apart : ∀ (i j : Nat) (p q : Part), l[i]? = some p → l[j]? = some q → i ≠ j → ∀ k, p.fp k → ¬ q.fp k
  low : ∀ (i : Nat) (p : Part), l[i]? = some p → ∀ k, p.fp k → base ≤ k
section
variable {w w' : World} {base : Nat} {l : List Part}
theorem Parts.kept (h : Parts w base l) {S : Nat → Prop} (t : Turns S w w') (hs : ∀ (i : Nat) (p : Part), l[i]? = some p → ∀ k, p.fp k → ¬ S k) : Parts w' base l :=
  ⟨Nat.le_trans h.size t.size, fun i p hp => p.kept S w w' (h.ok i p hp) t (hs i p hp), h.apart, h.low⟩
theorem Parts.new (h : Parts w base l) (b : Below w.heap.size w w') : Parts w' base l :=
  h.kept (Turns.of_below (S := fun _ => False) b) (fun _ _ _ _ _ e => e)
theorem Parts.drew (h : Parts w base l) : Parts w.drew base l := h.kept (Turns.refl (fun _ => False) w).drew (fun _ _ _ _ _ e => e)
/-- One of them turns: the others stay. -/
theorem Parts.turn (h : Parts w base l) {i : Nat} {p : Part} (hp : l[i]? = some p) (q : Part) (hq : q.ok w') (t : Turns p.fp w w') (hf : ∀ k, q.fp k → p.fp k ∨ w.heap.size ≤ k) : Parts w' base (l.set i q) ∧ Below base w w' := by
  have hi : i < l.length := (List.getElem?_eq_some_iff.1 hp).1
  have at_i : ∀ r, (l.set i q)[i]? = some r → r = q := fun r hr => by
    rw [List.getElem?_set_self hi] at hr; injection hr with hr; exact hr.symm
  have at_j : ∀ j r, j ≠ i → (l.set i q)[j]? = some r → l[j]? = some r := fun j r hj hr => by
    rwa [List.getElem?_set_ne (Ne.symm hj)] at hr
  refine ⟨⟨Nat.le_trans h.size t.size, fun j r hr => ?_, fun j k r s hr hs hjk x hx hy => ?_, fun j r hr x hx => ?_⟩, t.below h.size (fun k hk e => by have := h.low i p hp k e; omega)⟩
  · by_cases e : j = i
    · subst e; rw [at_i r hr]; exact hq
    · have hr' := at_j j r e hr
      exact r.kept _ w w' (h.ok j r hr') t (fun k hk => h.apart j i r p hr' hp e k hk)
  · by_cases e : j = i
    · subst e
      rw [at_i r hr] at hx
      have hs' := at_j k s (fun e => hjk e.symm) hs
      rcases hf x hx with hx | hx
      · exact h.apart _ _ _ _ hp hs' hjk x hx hy
      · have := s.lt w (h.ok k s hs') x hy; omega
    · have hr' := at_j j r e hr
      by_cases e2 : k = i
      · subst e2
        rw [at_i s hs] at hy
        rcases hf x hy with hy | hy
        · exact h.apart _ _ _ _ hr' hp hjk x hx hy
        · have := r.lt w (h.ok j r hr') x hx; omega
      · exact h.apart _ _ _ _ hr' (at_j k s e2 hs) hjk x hx hy
  · by_cases e : j = i
    · subst e
      rw [at_i r hr] at hx
      rcases hf x hx with hx | hx
      · exact h.low _ _ hp x hx
      · have := h.size; omega
    · exact h.low _ _ (at_j j r e hr) x hx
/-- A thing more, in new blocks. -/
theorem Parts.push (h : Parts w base l) (q : Part) (b : Below w.heap.size w w') (hq : q.ok w') (hf : ∀ k, q.fp k → w.heap.size ≤ k) : Parts w' base (l ++ [q]) := by
  have h' := h.new b
  have split : ∀ j r, (l ++ [q])[j]? = some r → l[j]? = some r ∨ j = l.length ∧ r = q := fun j r hr => by
    by_cases hj : j < l.length
    · rw [List.getElem?_append_left hj] at hr; exact .inl hr
    · rw [List.getElem?_append_right (by omega)] at hr
      have : j - l.length = 0 := by
        rcases Nat.eq_zero_or_pos (j - l.length) with h0 | h0
        · exact h0
        · rw [List.getElem?_eq_none (by simp; omega)] at hr; cases hr
      rw [this] at hr; simp at hr
      exact .inr ⟨by omega, hr.symm⟩
  refine ⟨h'.size, fun j r hr => ?_, fun j k r s hr hs hjk x hx hy => ?_, fun j r hr x hx => ?_⟩
  · rcases split j r hr with hr | ⟨_, rfl⟩
    · exact h'.ok j r hr
    · exact hq
  · rcases split j r hr with h1 | ⟨hj, e1⟩
    · rcases split k s hs with h2 | ⟨hk, e2⟩
      · exact h.apart _ _ _ _ h1 h2 hjk x hx hy
      · subst e2; have := r.lt w (h.ok j r h1) x hx; have := hf x hy; omega
    · rcases split k s hs with h2 | ⟨hk, e2⟩
      · subst e1; have := s.lt w (h.ok k s h2) x hy; have := hf x hx; omega
      · omega
  · rcases split j r hr with hr | ⟨_, rfl⟩
    · exact h.low j r hr x hx
    · have := hf x hx; have := h.size; omega
theorem parts_nil (w : World) : Parts w w.heap.size [] := ⟨Nat.le_refl _, fun i p hp => by simp at hp, fun i j p q hp => by simp at hp, fun i p hp => by simp at hp⟩
end
/-- A block that stays as it is. -/
def blockP (B : Nat) (o : Obj) : Part where
  ok w := w.heap[B]? = some o
  fp k := k = B
  lt w h k e := by rw [e]; exact (Array.getElem?_eq_some_iff.1 h).1
  kept S w w' h t hs := (t.block B (Array.getElem?_eq_some_iff.1 h).1 (hs B rfl)).trans h
end Go.Proofs.YthafnphpcdbnlaaGreatDoor.S12
