/- Texts of this seat, one behind the other. -/
import Derived.Test.YtpmafdggbeppcaaGreatDoorMLawVoid181
import Derived.Test.YtpmafdggbeppcaaGreatDoorMLawVoid183
import Derived.Test.YtpmafdggbeppcaaGreatDoorRows
import Derived.Test.YtpmafdggbeppcaaGreatDoorTie
import Derived.Test.YtpmafdggbeppcaaGreatDoorCards
import Derived.Lib.SmallJoins
import Derived.ProofKit
import Derived.LaidMore
import Derived.OpenShut
import Derived.Stop.Joined
import Derived.SevenTiedAt
set_option linter.unusedVariables false
set_option linter.unusedSimpArgs false
namespace Go.Proofs.YtpmafdggbeppcaaGreatDoor
open Go.ChangeShapes Go.WideShapes Go.ChangeAt Go.RowKit Go.Lib
open Go.Proofs.YtpmafdggbeppcaaGreatDoor.S11
theorem own : ownKnob Tryz.prog.godebug = none := by kernel_rfl
abbrev L4 : List (String × DataW Unit) := [("layby/notes.names", Rows.laid_layby_notes_names)]
theorem door_met (os : Os) (args : Array Value) : laidMetH Tryz.prog L4 ((World.doorLaid Tryz.prog 400 os).forCall (fun _ _ => 0) ⟨#[], args, []⟩).memory :=
  laidMetH_of_parts3 (fuel := 8) (laidMet_of_run' 8 (by kernel_rfl) (by kernel_rfl)) (by kernel_rfl) (by kernel_rfl)
theorem laid_cell {n : String} {d : DataW Unit} {W : World} {g t : Nat} (hg : Tryz.prog.globalNamed n = some g) (ht : (Tryz.prog.globals[g]?).map (·.type) = some t) :
    ∀ (l : List (String × DataW Unit)) (ps : List MemPlace), DataW.LaidVars Tryz.prog W l ps → (n, d) ∈ l →
    ∃ (cs : Array Value) (fuel : Nat) (p : List MemPlace), W.var? Tryz.prog n = some cs ∧ DataW.trod (fun _ => ()) Tryz.prog W 0 (fun _ => true) false fuel t cs.toList = some (d, p) ∧ ∀ k o v, litAt Tryz.prog k t d o = some v → cs[o]? = some v
  | [], _, _, h => by cases h
  | (n', d') :: r, ps, hL, h => by
    obtain ⟨g', t', cs, fuel, p, q, hg', ht', hv, hd, hr, _⟩ := hL
    rcases List.mem_cons.1 h with h | h
    · cases h
      obtain rfl := Option.some.inj (hg.symm.trans hg')
      obtain rfl := Option.some.inj (ht.symm.trans ht')
      exact ⟨cs, fuel, p, hv, hd, fun k o v hl => by
        have := litAt_cell k fuel t cs.toList d p o v hd hl
        simpa using this⟩
    · exact laid_cell hg ht r q hr h
theorem lit_names : ∀ (k : Nat) (_ : k < 38), litAt Tryz.prog 6 359 (Rows.laid_layby_notes_names (H := Unit)) k = some (.string (nmS k))
  | 0, _ => by kernel_rfl
  | 1, _ => by kernel_rfl
  | 2, _ => by kernel_rfl
  | 3, _ => by kernel_rfl
  | 4, _ => by kernel_rfl
  | 5, _ => by kernel_rfl
  | 6, _ => by kernel_rfl
  | 7, _ => by kernel_rfl
  | 8, _ => by kernel_rfl
  | 9, _ => by kernel_rfl
  | 10, _ => by kernel_rfl
  | 11, _ => by kernel_rfl
  | 12, _ => by kernel_rfl
  | 13, _ => by kernel_rfl
  | 14, _ => by kernel_rfl
  | 15, _ => by kernel_rfl
  | 16, _ => by kernel_rfl
  | 17, _ => by kernel_rfl
  | 18, _ => by kernel_rfl
  | 19, _ => by kernel_rfl
  | 20, _ => by kernel_rfl
  | 21, _ => by kernel_rfl
  | 22, _ => by kernel_rfl
  | 23, _ => by kernel_rfl
  | 24, _ => by kernel_rfl
  | 25, _ => by kernel_rfl
  | 26, _ => by kernel_rfl
  | 27, _ => by kernel_rfl
  | 28, _ => by kernel_rfl
  | 29, _ => by kernel_rfl
  | 30, _ => by kernel_rfl
  | 31, _ => by kernel_rfl
  | 32, _ => by kernel_rfl
  | 33, _ => by kernel_rfl
  | 34, _ => by kernel_rfl
  | 35, _ => by kernel_rfl
  | 36, _ => by kernel_rfl
  | 37, _ => by kernel_rfl
  | k + 38, h => by omega
theorem of_laid {W : World} (h : laidMetH Tryz.prog L4 W) : Tab W := by
  rw [MakeChecks.laidMetH_plain _ _ _ (by kernel_rfl)] at h
  obtain ⟨ps, hL, _⟩ := h
  have gN : Tryz.prog.globalNamed "layby/notes.names" = some 0 := by kernel_rfl
  obtain ⟨cs, _, _, hv, _, hc⟩ := laid_cell (n := "layby/notes.names") (d := Rows.laid_layby_notes_names) (g := 0) (t := 359) gN (by kernel_rfl) L4 ps hL (by simp)
  have cell : ∀ o v, litAt Tryz.prog 6 359 (Rows.laid_layby_notes_names (H := Unit)) o = some v → W.cell? ⟨0, o, none⟩ = some v := fun o v hl => by
    rw [World.var?_cell gN hv o]; exact hc 6 o v hl
  refine ⟨?_, fun k hk => cell _ _ (lit_names k hk)⟩
  have := cell _ _ (lit_names 0 (by omega))
  rcases Nat.eq_zero_or_pos W.heap.size with h | h
  · unfold World.cell? at this
    rw [Array.getElem?_eq_none (by simp [h])] at this
    simp at this
  · exact h
end Go.Proofs.YtpmafdggbeppcaaGreatDoor
set_option linter.unusedVariables false
set_option linter.unusedSimpArgs false
namespace Go.Proofs.YtpmafdggbeppcaaGreatDoor
theorem laidOut : laidOutB Tryz.prog = true := by kernel_rfl
namespace S18
open Go.ChangeShapes Go.WideShapes Go.ChangeAt Go.RowKit Go.Deep
set_option maxRecDepth 100000
theorem nat_of {k : IntKind} {a : Int} {M : Nat} (h0 : k.min = 0) (h1 : k.max = (M : Int)) (h : (Lit.int k a).wf = true) : ∃ n : Nat, a = n ∧ n ≤ M := by
  simp [Lit.wf, h0] at h
  obtain ⟨n, rfl⟩ := Int.eq_ofNat_of_zero_le h.1
  exact ⟨n, rfl, by have := h.2; omega⟩
theorem i64_open {H : Type} {enc : TypeId × Value → H} {W : World} {v : Value} {d : DataW H} {p : List MemPlace} {r : Reach} {b0 : Nat} (hv : Value.okWide Tryz.prog W r b0 3 v) (h : DataW.Trod enc Tryz.prog W 0 (fun _ => true) true 3 v d p) : ∃ n : Int, v = .int .i64 n := by
  obtain ⟨a, rfl, _, _, wa⟩ := open_int Tryz.underlying3 hv h
  exact ⟨a, rfl⟩
theorem u32_open {H : Type} {enc : TypeId × Value → H} {W : World} {v : Value} {d : DataW H} {p : List MemPlace} {r : Reach} {b0 : Nat} (hv : Value.okWide Tryz.prog W r b0 23 v) (h : DataW.Trod enc Tryz.prog W 0 (fun _ => true) true 23 v d p) : ∃ n : Nat, v = .int .u32 n ∧ n < 4294967296 := by
  obtain ⟨a, rfl, _, _, wa⟩ := open_int Tryz.underlying23 hv h
  obtain ⟨n, rfl, hn⟩ := nat_of (M := 4294967295) rfl rfl wa
  exact ⟨n, rfl, by omega⟩
end S18
end Go.Proofs.YtpmafdggbeppcaaGreatDoor
namespace Go.Proofs.YtpmafdggbeppcaaGreatDoor
open Go
theorem tA {P : Program} {md : Region.Mode} {ops : Array Oper} {Q : Exit → Act → World → Prop} {S : World → Prop} (i : Nat) (oi : Oper) (v : Value) {fuel : Nat} {listed : Array Bool} {a : Act} {w : World}
    (h : wpAnyH P md ops Q S fuel (listed.setIfInBounds i true) (a.put oi.dst v) w) (hi : ops[i]? = some oi := by rfl) (hs : Region.noSelect ops = true := by kernel_rfl) (hf : Region.free md ops listed i = true := by kernel_rfl) (hr : (Region.ready md ops listed).contains i = true := by kernel_rfl)
    (hQ : ∀ c a w, Q (.panic c) (a.put oi.dst v) w → Q (.panic c) a w := by exact fun _ _ _ h => h) (hg : Region.wanted oi (yielded ops a.tmps) = true := by rfl) (hS : S w := by assumption)
    (hy : ∀ w, S w → (execOp a.eval oi).run P w = .ok (.value v) w := by (intro w hSw; (try dsimp only at hSw); go_simp; (try with_reducible rfl))) : wpAnyH P md ops Q S (fuel + 1) listed a w :=
  wpAnyH_take hi hs hf hr hQ (Or.inl ⟨hg, hy⟩) hS h
theorem tC {α : Type} (l : List α) (i : Nat) (x : α) : l.toArray.setIfInBounds i x = (l.set i x).toArray := List.setIfInBounds_toArray l i x
@[defeq] theorem tD {α : Type} (a x : α) (l : List α) : (a :: l).set 0 x = x :: l := rfl
@[defeq] theorem tE {α : Type} (a x : α) (l : List α) (n : Nat) : (a :: l).set (n + 1) x = a :: l.set n x := rfl
end Go.Proofs.YtpmafdggbeppcaaGreatDoor
namespace Go.Proofs.YtpmafdggbeppcaaGreatDoor.S12
open Go.Proofs.YtpmafdggbeppcaaGreatDoor Go.Proofs.YtpmafdggbeppcaaGreatDoor.S11
open Go.RowKit
structure Part where
  ok : World → Prop
  fp : Nat → Prop
  lt : ∀ w, ok w → ∀ k, fp k → k < w.heap.size
  kept : ∀ (S : Nat → Prop) w w', ok w → Turns S w w' → (∀ k, fp k → ¬ S k) → ok w'
structure Parts (w : World) (base : Nat) (l : List Part) : Prop where
  size : base ≤ w.heap.size
  ok : ∀ (i : Nat) (p : Part), l[i]? = some p → p.ok w
  apart : ∀ (i j : Nat) (p q : Part), l[i]? = some p → l[j]? = some q → i ≠ j → ∀ k, p.fp k → ¬ q.fp k
  low : ∀ (i : Nat) (p : Part), l[i]? = some p → ∀ k, p.fp k → base ≤ k
section
variable {w w' : World} {base : Nat} {l : List Part}
theorem Parts.kept (h : Parts w base l) {S : Nat → Prop} (t : Turns S w w') (hs : ∀ (i : Nat) (p : Part), l[i]? = some p → ∀ k, p.fp k → ¬ S k) : Parts w' base l :=
  ⟨Nat.le_trans h.size t.size, fun i p hp => p.kept S w w' (h.ok i p hp) t (hs i p hp), h.apart, h.low⟩
theorem Parts.new (h : Parts w base l) (b : Below w.heap.size w w') : Parts w' base l :=
  h.kept (Turns.of_below (S := fun _ => False) b) (fun _ _ _ _ _ e => e)
theorem Parts.drew (h : Parts w base l) : Parts w.drew base l := h.kept (Turns.refl (fun _ => False) w).drew (fun _ _ _ _ _ e => e)
theorem Parts.turn (h : Parts w base l) {i : Nat} {p : Part} (hp : l[i]? = some p) (q : Part) (hq : q.ok w') (t : Turns p.fp w w') (hf : ∀ k, q.fp k → p.fp k ∨ w.heap.size ≤ k) : Parts w' base (l.set i q) ∧ Below base w w' := by
  have hi : i < l.length := (List.getElem?_eq_some_iff.1 hp).1
  have at_i : ∀ r, (l.set i q)[i]? = some r → r = q := fun r hr => by
    rw [List.getElem?_set_self hi] at hr; injection hr with hr; exact hr.symm
  have at_j : ∀ j r, j ≠ i → (l.set i q)[j]? = some r → l[j]? = some r := fun j r hj hr => by
    rwa [List.getElem?_set_ne (Ne.symm hj)] at hr
  refine ⟨⟨Nat.le_trans h.size t.size, fun j r hr => ?_, fun j k r s hr hs hjk x hx hy => ?_, fun j r hr x hx => ?_⟩, t.below h.size (fun k hk e => by have := h.low i p hp k e; omega)⟩
  · by_cases e : j = i
    · subst e; rw [at_i r hr]; exact hq
    · have hr' := at_j j r e hr
      exact r.kept _ w w' (h.ok j r hr') t (fun k hk => h.apart j i r p hr' hp e k hk)
  · by_cases e : j = i
    · subst e
      rw [at_i r hr] at hx
      have hs' := at_j k s (fun e => hjk e.symm) hs
      rcases hf x hx with hx | hx
      · exact h.apart _ _ _ _ hp hs' hjk x hx hy
      · have := s.lt w (h.ok k s hs') x hy; omega
    · have hr' := at_j j r e hr
      by_cases e2 : k = i
      · subst e2
        rw [at_i s hs] at hy
        rcases hf x hy with hy | hy
        · exact h.apart _ _ _ _ hr' hp hjk x hx hy
        · have := r.lt w (h.ok j r hr') x hx; omega
      · exact h.apart _ _ _ _ hr' (at_j k s e2 hs) hjk x hx hy
  · by_cases e : j = i
    · subst e
      rw [at_i r hr] at hx
      rcases hf x hx with hx | hx
      · exact h.low _ _ hp x hx
      · have := h.size; omega
    · exact h.low _ _ (at_j j r e hr) x hx
theorem Parts.push (h : Parts w base l) (q : Part) (b : Below w.heap.size w w') (hq : q.ok w') (hf : ∀ k, q.fp k → w.heap.size ≤ k) : Parts w' base (l ++ [q]) := by
  have h' := h.new b
  have split : ∀ j r, (l ++ [q])[j]? = some r → l[j]? = some r ∨ j = l.length ∧ r = q := fun j r hr => by
    by_cases hj : j < l.length
    · rw [List.getElem?_append_left hj] at hr; exact .inl hr
    · rw [List.getElem?_append_right (by omega)] at hr
      have : j - l.length = 0 := by
        rcases Nat.eq_zero_or_pos (j - l.length) with h0 | h0
        · exact h0
        · rw [List.getElem?_eq_none (by simp; omega)] at hr; cases hr
      rw [this] at hr; simp at hr
      exact .inr ⟨by omega, hr.symm⟩
  refine ⟨h'.size, fun j r hr => ?_, fun j k r s hr hs hjk x hx hy => ?_, fun j r hr x hx => ?_⟩
  · rcases split j r hr with hr | ⟨_, rfl⟩
    · exact h'.ok j r hr
    · exact hq
  · rcases split j r hr with h1 | ⟨hj, e1⟩
    · rcases split k s hs with h2 | ⟨hk, e2⟩
      · exact h.apart _ _ _ _ h1 h2 hjk x hx hy
      · subst e2; have := r.lt w (h.ok j r h1) x hx; have := hf x hy; omega
    · rcases split k s hs with h2 | ⟨hk, e2⟩
      · subst e1; have := s.lt w (h.ok k s h2) x hy; have := hf x hx; omega
      · omega
  · rcases split j r hr with hr | ⟨_, rfl⟩
    · exact h.low j r hr x hx
    · have := hf x hx; have := h.size; omega
theorem parts_nil (w : World) : Parts w w.heap.size [] := ⟨Nat.le_refl _, fun i p hp => by simp at hp, fun i j p q hp => by simp at hp, fun i p hp => by simp at hp⟩
end
def blockP (B : Nat) (o : Obj) : Part where
  ok w := w.heap[B]? = some o
  fp k := k = B
  lt w h k e := by rw [e]; exact (Array.getElem?_eq_some_iff.1 h).1
  kept S w w' h t hs := (t.block B (Array.getElem?_eq_some_iff.1 h).1 (hs B rfl)).trans h
end Go.Proofs.YtpmafdggbeppcaaGreatDoor.S12
