/- Texts of this seat, one behind the other. -/
import Derived.Test.YtieiiabbeglmfaaGreatDoorMLawOldest202
import Derived.Test.YtieiiabbeglmfaaGreatDoorMLawOldest204
import Derived.Test.YtieiiabbeglmfaaGreatDoorRows
import Derived.Test.YtieiiabbeglmfaaGreatDoorTie
import Derived.Test.YtieiiabbeglmfaaGreatDoorCards
import Derived.Lib.SmallJoins
import Derived.ProofKit
import Derived.LaidMore
import Derived.OpenShut
import Derived.Stop.Joined
import Derived.SevenTiedAt
set_option linter.unusedVariables false
set_option linter.unusedSimpArgs false
set_option linter.unusedVariables false
set_option linter.unusedSimpArgs false
namespace Go.Proofs.YtieiiabbeglmfaaGreatDoor
open Go.ChangeShapes Go.WideShapes Go.ChangeAt Go.RowKit Go.Lib
open Go.Proofs.YtieiiabbeglmfaaGreatDoor.S11
theorem own : ownKnob Tryz.prog.godebug = none := by kernel_rfl
abbrev L4 : List (String × DataW Unit) := [("layby/notes.names", Rows.laid_layby_notes_names)]
theorem door_met (os : Os) (args : Array Value) : laidMetH Tryz.prog L4 ((World.doorLaid Tryz.prog 400 os).forCall (fun _ _ => 0) ⟨#[], args, []⟩).memory :=
  laidMetH_of_parts3 (fuel := 8) (laidMet_of_run' 8 (by kernel_rfl) (by kernel_rfl)) (by kernel_rfl) (by kernel_rfl)
theorem laid_cell {n : String} {d : DataW Unit} {W : World} {g t : Nat} (hg : Tryz.prog.globalNamed n = some g) (ht : (Tryz.prog.globals[g]?).map (·.type) = some t) :
    ∀ (l : List (String × DataW Unit)) (ps : List MemPlace), DataW.LaidVars Tryz.prog W l ps → (n, d) ∈ l →
    ∃ (cs : Array Value) (fuel : Nat) (p : List MemPlace), W.var? Tryz.prog n = some cs ∧ DataW.trod (fun _ => ()) Tryz.prog W 0 (fun _ => true) false fuel t cs.toList = some (d, p) ∧ ∀ k o v, litAt Tryz.prog k t d o = some v → cs[o]? = some v
  | [], _, _, h => by cases h
  | (n', d') :: r, ps, hL, h => by
    obtain ⟨g', t', cs, fuel, p, q, hg', ht', hv, hd, hr, _⟩ := hL
    rcases List.mem_cons.1 h with h | h
    · cases h
      obtain rfl := Option.some.inj (hg.symm.trans hg')
      obtain rfl := Option.some.inj (ht.symm.trans ht')
      exact ⟨cs, fuel, p, hv, hd, fun k o v hl => by
        have := litAt_cell k fuel t cs.toList d p o v hd hl
        simpa using this⟩
    · exact laid_cell hg ht r q hr h
theorem lit_names : ∀ (k : Nat) (_ : k < 38), litAt Tryz.prog 6 410 (Rows.laid_layby_notes_names (H := Unit)) k = some (.string (nmS k))
  | 0, _ => by kernel_rfl
  | 1, _ => by kernel_rfl
  | 2, _ => by kernel_rfl
  | 3, _ => by kernel_rfl
  | 4, _ => by kernel_rfl
  | 5, _ => by kernel_rfl
  | 6, _ => by kernel_rfl
  | 7, _ => by kernel_rfl
  | 8, _ => by kernel_rfl
  | 9, _ => by kernel_rfl
  | 10, _ => by kernel_rfl
  | 11, _ => by kernel_rfl
  | 12, _ => by kernel_rfl
  | 13, _ => by kernel_rfl
  | 14, _ => by kernel_rfl
  | 15, _ => by kernel_rfl
  | 16, _ => by kernel_rfl
  | 17, _ => by kernel_rfl
  | 18, _ => by kernel_rfl
  | 19, _ => by kernel_rfl
  | 20, _ => by kernel_rfl
  | 21, _ => by kernel_rfl
  | 22, _ => by kernel_rfl
  | 23, _ => by kernel_rfl
  | 24, _ => by kernel_rfl
  | 25, _ => by kernel_rfl
  | 26, _ => by kernel_rfl
  | 27, _ => by kernel_rfl
  | 28, _ => by kernel_rfl
  | 29, _ => by kernel_rfl
  | 30, _ => by kernel_rfl
  | 31, _ => by kernel_rfl
  | 32, _ => by kernel_rfl
  | 33, _ => by kernel_rfl
  | 34, _ => by kernel_rfl
  | 35, _ => by kernel_rfl
  | 36, _ => by kernel_rfl
  | 37, _ => by kernel_rfl
  | k + 38, h => by omega
theorem of_laid {W : World} (h : laidMetH Tryz.prog L4 W) : Tab W := by
  rw [MakeChecks.laidMetH_plain _ _ _ (by kernel_rfl)] at h
  obtain ⟨ps, hL, _⟩ := h
  have gN : Tryz.prog.globalNamed "layby/notes.names" = some 0 := by kernel_rfl
  obtain ⟨cs, _, _, hv, _, hc⟩ := laid_cell (n := "layby/notes.names") (d := Rows.laid_layby_notes_names) (g := 0) (t := 410) gN (by kernel_rfl) L4 ps hL (by simp)
  have cell : ∀ o v, litAt Tryz.prog 6 410 (Rows.laid_layby_notes_names (H := Unit)) o = some v → W.cell? ⟨0, o, none⟩ = some v := fun o v hl => by
    rw [World.var?_cell gN hv o]; exact hc 6 o v hl
  refine ⟨?_, fun k hk => cell _ _ (lit_names k hk)⟩
  have := cell _ _ (lit_names 0 (by omega))
  rcases Nat.eq_zero_or_pos W.heap.size with h | h
  · unfold World.cell? at this
    rw [Array.getElem?_eq_none (by simp [h])] at this
    simp at this
  · exact h
end Go.Proofs.YtieiiabbeglmfaaGreatDoor
set_option linter.unusedVariables false
set_option linter.unusedSimpArgs false
namespace Go.Proofs.YtieiiabbeglmfaaGreatDoor
theorem laidOut : laidOutB Tryz.prog = true := by kernel_rfl
namespace S18
open Go.ChangeShapes Go.WideShapes Go.ChangeAt Go.RowKit Go.Deep
set_option maxRecDepth 100000
end S18
end Go.Proofs.YtieiiabbeglmfaaGreatDoor
set_option linter.unusedVariables false
set_option linter.unusedSimpArgs false
namespace Go.Proofs.YtieiiabbeglmfaaGreatDoor.S18
open Go.ChangeShapes Go.WideShapes Go.ChangeAt Go.RowKit Go.Deep
set_option maxRecDepth 100000
end Go.Proofs.YtieiiabbeglmfaaGreatDoor.S18
namespace Go.Proofs.YtieiiabbeglmfaaGreatDoor.S12
open Go.Proofs.YtieiiabbeglmfaaGreatDoor Go.Proofs.YtieiiabbeglmfaaGreatDoor.S11
open Go.RowKit
structure Part where
  ok : World → Prop
  fp : Nat → Prop
  lt : ∀ w, ok w → ∀ k, fp k → k < w.heap.size
  kept : ∀ (S : Nat → Prop) w w', ok w → Turns S w w' → (∀ k, fp k → ¬ S k) → ok w'
structure Parts (w : World) (base : Nat) (l : List Part) : Prop where
  size : base ≤ w.heap.size
  ok : ∀ (i : Nat) (p : Part), l[i]? = some p → p.ok w
  apart : ∀ (i j : Nat) (p q : Part), l[i]? = some p → l[j]? = some q → i ≠ j → ∀ k, p.fp k → ¬ q.fp k
  low : ∀ (i : Nat) (p : Part), l[i]? = some p → ∀ k, p.fp k → base ≤ k
section
variable {w w' : World} {base : Nat} {l : List Part}
theorem Parts.kept (h : Parts w base l) {S : Nat → Prop} (t : Turns S w w') (hs : ∀ (i : Nat) (p : Part), l[i]? = some p → ∀ k, p.fp k → ¬ S k) : Parts w' base l :=
  ⟨Nat.le_trans h.size t.size, fun i p hp => p.kept S w w' (h.ok i p hp) t (hs i p hp), h.apart, h.low⟩
theorem Parts.new (h : Parts w base l) (b : Below w.heap.size w w') : Parts w' base l :=
  h.kept (Turns.of_below (S := fun _ => False) b) (fun _ _ _ _ _ e => e)
theorem Parts.drew (h : Parts w base l) : Parts w.drew base l := h.kept (Turns.refl (fun _ => False) w).drew (fun _ _ _ _ _ e => e)
theorem Parts.turn (h : Parts w base l) {i : Nat} {p : Part} (hp : l[i]? = some p) (q : Part) (hq : q.ok w') (t : Turns p.fp w w') (hf : ∀ k, q.fp k → p.fp k ∨ w.heap.size ≤ k) : Parts w' base (l.set i q) ∧ Below base w w' := by
  have hi : i < l.length := (List.getElem?_eq_some_iff.1 hp).1
  have at_i : ∀ r, (l.set i q)[i]? = some r → r = q := fun r hr => by
    rw [List.getElem?_set_self hi] at hr; injection hr with hr; exact hr.symm
  have at_j : ∀ j r, j ≠ i → (l.set i q)[j]? = some r → l[j]? = some r := fun j r hj hr => by
    rwa [List.getElem?_set_ne (Ne.symm hj)] at hr
  refine ⟨⟨Nat.le_trans h.size t.size, fun j r hr => ?_, fun j k r s hr hs hjk x hx hy => ?_, fun j r hr x hx => ?_⟩, t.below h.size (fun k hk e => by have := h.low i p hp k e; omega)⟩
  · by_cases e : j = i
    · subst e; rw [at_i r hr]; exact hq
    · have hr' := at_j j r e hr
      exact r.kept _ w w' (h.ok j r hr') t (fun k hk => h.apart j i r p hr' hp e k hk)
  · by_cases e : j = i
    · subst e
      rw [at_i r hr] at hx
      have hs' := at_j k s (fun e => hjk e.symm) hs
      rcases hf x hx with hx | hx
      · exact h.apart _ _ _ _ hp hs' hjk x hx hy
      · have := s.lt w (h.ok k s hs') x hy; omega
    · have hr' := at_j j r e hr
      by_cases e2 : k = i
      · subst e2
        rw [at_i s hs] at hy
        rcases hf x hy with hy | hy
        · exact h.apart _ _ _ _ hr' hp hjk x hx hy
        · have := r.lt w (h.ok j r hr') x hx; omega
      · exact h.apart _ _ _ _ hr' (at_j k s e2 hs) hjk x hx hy
  · by_cases e : j = i
    · subst e
      rw [at_i r hr] at hx
      rcases hf x hx with hx | hx
      · exact h.low _ _ hp x hx
      · have := h.size; omega
    · exact h.low _ _ (at_j j r e hr) x hx
theorem Parts.push (h : Parts w base l) (q : Part) (b : Below w.heap.size w w') (hq : q.ok w') (hf : ∀ k, q.fp k → w.heap.size ≤ k) : Parts w' base (l ++ [q]) := by
  have h' := h.new b
  have split : ∀ j r, (l ++ [q])[j]? = some r → l[j]? = some r ∨ j = l.length ∧ r = q := fun j r hr => by
    by_cases hj : j < l.length
    · rw [List.getElem?_append_left hj] at hr; exact .inl hr
    · rw [List.getElem?_append_right (by omega)] at hr
      have : j - l.length = 0 := by
        rcases Nat.eq_zero_or_pos (j - l.length) with h0 | h0
        · exact h0
        · rw [List.getElem?_eq_none (by simp; omega)] at hr; cases hr
      rw [this] at hr; simp at hr
      exact .inr ⟨by omega, hr.symm⟩
  refine ⟨h'.size, fun j r hr => ?_, fun j k r s hr hs hjk x hx hy => ?_, fun j r hr x hx => ?_⟩
  · rcases split j r hr with hr | ⟨_, rfl⟩
    · exact h'.ok j r hr
    · exact hq
  · rcases split j r hr with h1 | ⟨hj, e1⟩
    · rcases split k s hs with h2 | ⟨hk, e2⟩
      · exact h.apart _ _ _ _ h1 h2 hjk x hx hy
      · subst e2; have := r.lt w (h.ok j r h1) x hx; have := hf x hy; omega
    · rcases split k s hs with h2 | ⟨hk, e2⟩
      · subst e1; have := s.lt w (h.ok k s h2) x hy; have := hf x hx; omega
      · omega
  · rcases split j r hr with hr | ⟨_, rfl⟩
    · exact h.low j r hr x hx
    · have := hf x hx; have := h.size; omega
theorem parts_nil (w : World) : Parts w w.heap.size [] := ⟨Nat.le_refl _, fun i p hp => by simp at hp, fun i j p q hp => by simp at hp, fun i p hp => by simp at hp⟩
end
def blockP (B : Nat) (o : Obj) : Part where
  ok w := w.heap[B]? = some o
  fp k := k = B
  lt w h k e := by rw [e]; exact (Array.getElem?_eq_some_iff.1 h).1
  kept S w w' h t hs := (t.block B (Array.getElem?_eq_some_iff.1 h).1 (hs B rfl)).trans h
end Go.Proofs.YtieiiabbeglmfaaGreatDoor.S12
namespace Go.Proofs.YtieiiabbeglmfaaGreatDoor.S3
open Go.Proofs.YtieiiabbeglmfaaGreatDoor
open Go.RowKit
structure Turns (S : Nat → Prop) (w w' : World) : Prop where
  os : w'.os = w.os
  tape : w'.tape = w.tape
  output : w'.output = w.output
  size : w.heap.size ≤ w'.heap.size
  block : ∀ k, k < w.heap.size → ¬ S k → w'.heap[k]? = w.heap[k]?
theorem Turns.refl (S : Nat → Prop) (w : World) : Turns S w w := ⟨rfl, rfl, rfl, Nat.le_refl _, fun _ _ _ => rfl⟩
theorem Turns.trans {S T : Nat → Prop} {a b c : World} (h : Turns S a b) (g : Turns T b c) (hs : ∀ k, k < a.heap.size → T k → S k) : Turns S a c :=
  ⟨g.os.trans h.os, g.tape.trans h.tape, g.output.trans h.output, Nat.le_trans h.size g.size, fun k hk hn => (g.block k (Nat.lt_of_lt_of_le hk h.size) (fun ht => hn (hs k hk ht))).trans (h.block k hk hn)⟩
theorem Turns.mono {S T : Nat → Prop} {a b : World} (h : Turns S a b) (hs : ∀ k, k < a.heap.size → S k → T k) : Turns T a b :=
  (Turns.refl T a).trans h hs
theorem Turns.below {S : Nat → Prop} {a b : World} {B : Nat} (h : Turns S a b) (hB : B ≤ a.heap.size) (hs : ∀ k, k < B → ¬ S k) : Below B a b :=
  ⟨h.os, h.tape, h.output, h.size, fun k hk => h.block k (by omega) (hs k hk)⟩
theorem Turns.alloc {S : Nat → Prop} {a b : World} (h : Turns S a b) (o : Obj) : Turns S a (b.alloc o) :=
  h.trans (T := fun _ => False) ⟨rfl, rfl, rfl, by simp, fun k hk _ => Below.heap_alloc _ _ _ hk⟩ (fun _ _ h => h.elim)
theorem Turns.cell {S : Nat → Prop} {a b : World} (h : Turns S a b) {g o : Nat} (hg : g < a.heap.size) (hn : ¬ S g) : b.cell? ⟨g, o, none⟩ = a.cell? ⟨g, o, none⟩ :=
  World.cell?_of_block (a := ⟨g, o, none⟩) (h.block g hg hn)
theorem Turns.frozen {S : Nat → Prop} {a b : World} (h : Turns S a b) {g o : Nat} (hg : g < a.heap.size) (hn : ¬ S g) : b.frozen? ⟨g, o, none⟩ = a.frozen? ⟨g, o, none⟩ :=
  World.frozen?_of_block (a := ⟨g, o, none⟩) (h.block g hg hn)
theorem cell_row {w : World} {B : Nat} {cs : Array Value} {T : TypeId} (h : w.heap[B]? = some (.cells cs T (0, 0))) (o : Nat) : w.cell? ⟨B, o, none⟩ = cs[o]? := by
  simp [World.cell?, h]
theorem froz_row {w : World} {B : Nat} {cs : Array Value} {T : TypeId} (h : w.heap[B]? = some (.cells cs T (0, 0))) (o : Nat) : w.frozen? ⟨B, o, none⟩ = false := by
  simp [World.frozen?, h]
def uv (d : Nat) : Value := .int .u64 (d : Int)
def Lies (w : World) (g o : Nat) (D : List Nat) : Prop := ∀ i, i < D.length → w.cell? ⟨g, o + i, none⟩ = some (uv D[i]!)
def Rd (w : World) (base : Nat) (A : Option Addr) (D : List Nat) : Prop := 0 < D.length → ∃ g o, A = some ⟨g, o, none⟩ ∧ g < base ∧ Lies w g o D
def Row (w : World) (base : Nat) (s : Value) (D : List Nat) : Prop :=
  ∃ A cap, s = .slice A D.length cap ∧ D.length ≤ cap ∧ cap ≤ maxLen ∧ (A = none → cap = 0) ∧
    ∀ ad, A = some ad → ∃ g o, ad = ⟨g, o, none⟩ ∧ base ≤ g ∧ g < w.heap.size ∧ Lies w g o D ∧ ∀ j, j < cap → (w.cell? ⟨g, o + j, none⟩).isSome = true ∧ w.frozen? ⟨g, o + j, none⟩ = false
theorem Rd.below {w w' : World} {base b : Nat} {A : Option Addr} {D : List Nat} (h : Rd w base A D) (hb : Below b w w') (hbb : base ≤ b) : Rd w' base A D := fun hp => by
  obtain ⟨g, o, e, hg, hl⟩ := h hp
  exact ⟨g, o, e, hg, fun i hi => (hb.cell (p := ⟨g, o + i, none⟩) (by show g < b; omega)).trans (hl i hi)⟩
theorem Rd.kept {S : Nat → Prop} {w w' : World} {base : Nat} {A : Option Addr} {D : List Nat} (h : Rd w base A D) (t : Turns S w w') (hb : base ≤ w.heap.size) (hs : ∀ k, k < base → ¬ S k) : Rd w' base A D := fun hp => by
  obtain ⟨g, o, e, hg, hl⟩ := h hp
  exact ⟨g, o, e, hg, fun i hi => (t.cell (by omega) (hs g hg)).trans (hl i hi)⟩
theorem getD_take {D : List Nat} {k i : Nat} (h : i < (D.take k).length) : (D.take k)[i]! = D[i]! := by
  have h2 : i < D.length := by rw [List.length_take] at h; omega
  rw [getElem!_pos _ i h, getElem!_pos _ i h2, List.getElem_take]
theorem Rd.take {w : World} {base : Nat} {A : Option Addr} {D : List Nat} (h : Rd w base A D) (k : Nat) : Rd w base A (D.take k) := fun hp => by
  rw [List.length_take] at hp
  obtain ⟨g, o, e, hg, hl⟩ := h (by omega)
  refine ⟨g, o, e, hg, fun i hi => ?_⟩
  rw [getD_take hi]
  rw [List.length_take] at hi
  exact hl i (by omega)
theorem Rd.nil {w : World} {base : Nat} {A : Option Addr} : Rd w base A [] := fun h => by simp at h
theorem Row.keep {S : Nat → Prop} {w w' : World} {base : Nat} {s : Value} {D : List Nat} (h : Row w base s D) (t : Turns S w w') (hs : ∀ g, s.ownBlock = some g → ¬ S g) : Row w' base s D := by
  obtain ⟨A, cap, rfl, h1, h2, h3, h4⟩ := h
  refine ⟨A, cap, rfl, h1, h2, h3, fun ad e => ?_⟩
  obtain ⟨g, o, rfl, hb, hg, hl, hc⟩ := h4 ad e
  have hn := hs g (by rw [e]; rfl)
  exact ⟨g, o, rfl, hb, Nat.lt_of_lt_of_le hg t.size, fun i hi => (t.cell hg hn).trans (hl i hi), fun j hj => ⟨by rw [t.cell hg hn]; exact (hc j hj).1, (t.frozen hg hn).trans (hc j hj).2⟩⟩
theorem Row.lt {w : World} {base : Nat} {s : Value} {D : List Nat} (h : Row w base s D) : ∀ g, s.ownBlock = some g → base ≤ g ∧ g < w.heap.size := by
  obtain ⟨A, cap, rfl, h1, h2, h3, h4⟩ := h
  intro g hg
  cases A with
  | none => simp [Value.ownBlock] at hg
  | some ad =>
    obtain ⟨g', o, rfl, hb, hlt, _⟩ := h4 ad rfl
    have : g' = g := by simpa [Value.ownBlock] using hg
    subst this
    exact ⟨hb, hlt⟩
theorem info23p : (Tryz.prog.info? 23).map (fun i => (i.zero, i.size, i.bytes)) = some (some (.int .u64 0), 1, 8) := by kernel_rfl
theorem info23 : ∃ i, Tryz.prog.info? 23 = some i ∧ i.zero = some (.int .u64 0) ∧ i.size = 1 ∧ i.bytes = 8 := by
  have h := info23p
  cases e : Tryz.prog.info? 23 with
  | none => rw [e] at h; cases h
  | some i =>
    rw [e] at h
    simp at h
    exact ⟨i, rfl, h.1, h.2.1, h.2.2⟩
theorem len_uv (D : List Nat) : (D.map uv).length = D.length := List.length_map ..
theorem one_uv (D : List Nat) : ∀ u ∈ D.map uv, u.oneCell' = true := fun u hu => by
  obtain ⟨_, _, rfl⟩ := List.mem_map.1 hu
  rfl
theorem get_uv {D : List Nat} {j : Nat} (h : j < D.length) : (D.map uv)[j]? = some (uv D[j]!) := by
  rw [List.getElem?_map, List.getElem?_eq_getElem h, getElem!_pos D j h]; rfl
theorem add_none (b o n : Nat) : (⟨b, o, none⟩ : Addr).add n = ⟨b, o + n, none⟩ := by unfold Addr.add; split <;> simp_all
end Go.Proofs.YtieiiabbeglmfaaGreatDoor.S3
