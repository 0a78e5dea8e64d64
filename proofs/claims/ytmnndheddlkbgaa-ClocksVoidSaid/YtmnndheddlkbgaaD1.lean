/- The program's clock and the document's, side by side, step by step; blocks that stay. -/
import Derived.Test.YtmnndheddlkbgaaC4
namespace Go.Proofs.Ytmnndheddlkbgaa
open Go.RowKit

/-- Of the blocks in P none turns. -/
structure Keeps (P : Nat → Prop) (w w' : World) : Prop where
  os : w'.os = w.os
  tape : w'.tape = w.tape
  output : w'.output = w.output
  size : w.heap.size ≤ w'.heap.size
  block : ∀ k, P k → w'.heap[k]? = w.heap[k]?
section
variable {P Q : Nat → Prop} {w w1 w2 : World}
theorem Keeps.trans (h : Keeps P w w1) (g : Keeps P w1 w2) : Keeps P w w2 :=
  ⟨g.os.trans h.os, g.tape.trans h.tape, g.output.trans h.output, Nat.le_trans h.size g.size, fun k hk => (g.block k hk).trans (h.block k hk)⟩
theorem Keeps.weak (h : Keeps P w w1) (hq : ∀ k, Q k → P k) : Keeps Q w w1 := ⟨h.os, h.tape, h.output, h.size, fun k hk => h.block k (hq k hk)⟩
theorem Keeps.of_below {B : Nat} (h : Below B w w1) (hp : ∀ k, P k → k < B) : Keeps P w w1 := ⟨h.os, h.tape, h.output, h.size, fun k hk => h.block k (hp k hk)⟩
theorem Keeps.below {B : Nat} (h : Keeps P w w1) (hp : ∀ k, k < B → P k) : Below B w w1 := ⟨h.os, h.tape, h.output, h.size, fun k hk => h.block k (hp k hk)⟩
theorem Keeps.of_turns {S : Nat → Prop} (h : Turns S w w1) (hp : ∀ k, P k → k < w.heap.size ∧ ¬ S k) : Keeps P w w1 := ⟨h.os, h.tape, h.output, h.size, fun k hk => h.block k (hp k hk).1 (hp k hk).2⟩
theorem Keeps.cell (h : Keeps P w w1) {g o : Nat} (hg : P g) : w1.cell? ⟨g, o, none⟩ = w.cell? ⟨g, o, none⟩ := World.cell?_of_block (a := ⟨g, o, none⟩) (h.block g hg)
theorem Keeps.frozen (h : Keeps P w w1) {g o : Nat} (hg : P g) : w1.frozen? ⟨g, o, none⟩ = w.frozen? ⟨g, o, none⟩ := World.frozen?_of_block (a := ⟨g, o, none⟩) (h.block g hg)
end
theorem Row.mono {w : World} {base b : Nat} {s : Value} {D : List Nat} (h : Row w base s D) (hb : b ≤ base) : Row w b s D := by
  obtain ⟨A, cap, e, h1, h2, h3, h4⟩ := h
  refine ⟨A, cap, e, h1, h2, h3, fun ad ha => ?_⟩
  obtain ⟨g, o, e', hg, r⟩ := h4 ad ha
  exact ⟨g, o, e', by omega, r⟩
theorem ClockAt.mono {w : World} {base b B T most : Nat} {s : Value} {D : List Nat} (h : ClockAt w base B T most s D) (hb : b ≤ base) : ClockAt w b B T most s D := ⟨h.nums, h.row, h.own.mono hb, h.ne⟩
theorem RefAt.mono {w : World} {base b B T most : Nat} {s : Value} {D : List Nat} (h : RefAt w base B T most s D) (hb : b ≤ base) : RefAt w b B T most s D := ⟨h.nums, h.row, h.own.mono hb, h.ne⟩
/-- Both clocks: the program's at tick T with D left, the document's at T2 with D2; no block of P is one of theirs. -/
structure Duo (w : World) (P : Nat → Prop) (B R T T2 most : Nat) (D D2 : List Nat) : Prop where
  lt : ∀ k, P k → k < w.heap.size
  own : ∃ s s2, ClockAt w 0 B T most s D ∧ RefAt w 0 R T2 most s2 D2 ∧ Apart B R s s2 ∧ ∀ k, P k → ¬ Foot B R s s2 k
section
variable {w w1 : World} {P Q : Nat → Prop} {B R T T2 most T' : Nat} {s s2 : Value} {D D2 D' : List Nat}
theorem Duo.weak (h : Duo w P B R T T2 most D D2) (hq : ∀ k, Q k → P k) : Duo w Q B R T T2 most D D2 :=
  let ⟨s, s2, c, r, a, f⟩ := h.own; ⟨fun k hk => h.lt k (hq k hk), s, s2, c, r, a, fun k hk => f k (hq k hk)⟩
theorem Duo.new (h : Duo w P B R T T2 most D D2) (b : Below w.heap.size w w1) : Duo w1 P B R T T2 most D D2 :=
  let ⟨s, s2, c, r, a, f⟩ := h.own; ⟨fun k hk => Nat.lt_of_lt_of_le (h.lt k hk) b.size, s, s2, c.new b, r.new b, a, f⟩
/-- A new block is none of theirs. -/
theorem Duo.add (h : Duo w P B R T T2 most D D2) (b : Below w.heap.size w w1) (X : Nat → Prop) (hX : ∀ k, X k → w.heap.size ≤ k ∧ k < w1.heap.size) : Duo w1 (fun k => P k ∨ X k) B R T T2 most D D2 := by
  have h1 := h.new b
  obtain ⟨s, s2, c, r, a, f⟩ := h.own
  refine ⟨fun k hk => ?_, s, s2, c.new b, r.new b, a, fun k hk hf => ?_⟩
  · rcases hk with hk | hk
    · exact h1.lt k hk
    · exact (hX k hk).2
  · rcases hk with hk | hk
    · exact f k hk hf
    · have hx := (hX k hk).1
      rcases hf with rfl | rfl | e | e
      · have := c.lt; omega
      · have := r.lt; omega
      · have := (c.own.lt k e).2; omega
      · have := (r.own.lt k e).2; omega
/-- Blocks of P may turn. -/
theorem Duo.turn {S : Nat → Prop} (h : Duo w P B R T T2 most D D2) (t : Turns S w w1) (hs : ∀ k, S k → P k) : Duo w1 P B R T T2 most D D2 := by
  obtain ⟨s, s2, c, r, a, f⟩ := h.own
  exact ⟨fun k hk => Nat.lt_of_lt_of_le (h.lt k hk) t.size, s, s2, c.kept t (fun e => f B (hs B e) (.inl rfl)) (fun g hg e => f g (hs g e) (.inr (.inr (.inl hg)))), r.kept t (fun e => f R (hs R e) (.inr (.inl rfl))) (fun g hg e => f g (hs g e) (.inr (.inr (.inr hg)))), a, f⟩
theorem Duo.clock (hlt : ∀ k, P k → k < w.heap.size) (c : ClockAt w 0 B T most s D) (r : RefAt w 0 R T2 most s2 D2) (a : Apart B R s s2) (f : ∀ k, P k → ¬ Foot B R s s2 k) (l : Leaves w w1 0 B T' most s D') : Duo w1 P B R T' T2 most D' D2 ∧ Keeps P w w1 := by
  obtain ⟨s', c1, o1, t1⟩ := l
  have hR := r.lt
  have hso2 := r.own.lt
  have hn1 : s'.ownBlock ≠ some R := by
    rcases o1 with e | e
    · rw [e]; exact a.sr
    · rw [e]; intro e'; injection e' with e'; omega
  refine ⟨⟨fun k hk => Nat.lt_of_lt_of_le (hlt k hk) t1.size, s', s2, c1, ?_, ⟨a.ne, hn1, a.rb, fun g hg e => ?_⟩, fun k hk hf => ?_⟩, Keeps.of_turns t1 fun k hk => ⟨hlt k hk, fun e => ?_⟩⟩
  · refine r.kept t1 ?_ ?_
    · rintro (e | e)
      · exact a.ne e
      · exact a.sr e
    · rintro g hg (e | e)
      · exact a.rb (e ▸ hg)
      · exact a.ss g e hg
  · rcases o1 with e' | e'
    · rw [e'] at hg; exact a.ss g hg e
    · rw [e'] at hg; injection hg with hg; have := (hso2 g e).2; omega
  · rcases hf with hf | hf | hf | hf
    · exact f k hk (.inl hf)
    · exact f k hk (.inr (.inl hf))
    · rcases o1 with e' | e'
      · rw [e'] at hf; exact f k hk (.inr (.inr (.inl hf)))
      · rw [e'] at hf; injection hf with hf; have := hlt k hk; omega
    · exact f k hk (.inr (.inr (.inr hf)))
  · rcases e with e | e
    · exact f k hk (.inl e)
    · exact f k hk (.inr (.inr (.inl e)))
theorem Duo.ref (hlt : ∀ k, P k → k < w.heap.size) (c : ClockAt w 0 B T most s D) (r : RefAt w 0 R T2 most s2 D2) (a : Apart B R s s2) (f : ∀ k, P k → ¬ Foot B R s s2 k) (l : RLeaves w w1 0 R T' most s2 D') : Duo w1 P B R T T' most D D' ∧ Keeps P w w1 := by
  obtain ⟨s', r1, o1, t1⟩ := l
  have hB := c.lt
  have hso := c.own.lt
  refine ⟨⟨fun k hk => Nat.lt_of_lt_of_le (hlt k hk) t1.size, s, s', ?_, r1, ⟨a.ne, a.sr, fun e => ?_, fun g hg e => ?_⟩, fun k hk hf => ?_⟩, Keeps.of_turns t1 fun k hk => ⟨hlt k hk, fun e => ?_⟩⟩
  · exact c.kept t1 (fun e => a.ne e.symm) (fun g hg e => a.sr (e ▸ hg))
  · rcases o1 B e with e | e
    · exact a.rb e
    · omega
  · rcases o1 g e with e | e
    · exact a.ss g hg e
    · have := (hso g hg).2; omega
  · rcases hf with hf | hf | hf | hf
    · exact f k hk (.inl hf)
    · exact f k hk (.inr (.inl hf))
    · exact f k hk (.inr (.inr (.inl hf)))
    · rcases o1 k hf with e | e
      · exact f k hk (.inr (.inr (.inr e)))
      · have := hlt k hk; omega
  · exact f k hk (.inr (.inl e))
theorem duo_tick (h : Duo w P B R T T2 most D D2) (n : Nat) (hn : n ≤ 18446744073709551615) : Calls Try.prog 10 #[Pt B, .int .u64 n] w fun e w' => e = .returned (.tuple #[]) ∧ Duo w' P B R (sat T n) T2 most D D2 ∧ Keeps P w w' := by
  obtain ⟨s, s2, c, r, a, f⟩ := h.own
  exact (tick_any c n hn).mono fun e w' ⟨he, c', t⟩ => ⟨he, Duo.clock h.lt c r a f ⟨s, c', .inl rfl, t.mono (fun _ _ e => .inl e)⟩⟩
theorem duo_rtick (h : Duo w P B R T T2 most D D2) (n : Nat) (hn : n ≤ 18446744073709551615) : Calls Try.prog 11 #[Pt R, .int .u64 n] w fun e w' => e = .returned (.tuple #[]) ∧ Duo w' P B R T (sat T2 n) most D D2 ∧ Keeps P w w' := by
  obtain ⟨s, s2, c, r, a, f⟩ := h.own
  exact (rtick_any r n hn).mono fun e w' ⟨he, r', t⟩ => ⟨he, Duo.ref h.lt c r a f ⟨s2, r', fun g hg => .inl hg, t⟩⟩
theorem duo_draw_none (h : Duo w P B R T T2 most [] D2) : Calls Try.prog 12 #[Pt B] w fun e w' => e = .returned (.int .u64 0) ∧ w = w' := let ⟨_, _, c, _⟩ := h.own; draw_none c
theorem duo_rdraw_none (h : Duo w P B R T T2 most D []) : Calls Try.prog 13 #[Pt R] w fun e w' => e = .returned (.int .u64 0) ∧ w = w' := let ⟨_, _, _, r, _⟩ := h.own; rdraw_none r
theorem duo_draw {d : Nat} (h : Duo w P B R T T2 most (d :: D) D2) : Calls Try.prog 12 #[Pt B] w fun e w' => e = .returned (.int .u64 (brt d most : Nat)) ∧ Duo w' P B R T T2 most D D2 ∧ Keeps P w w' := by
  obtain ⟨s, s2, c, r, a, f⟩ := h.own
  exact (draw_some c).mono fun e w' ⟨he, s', c', e', t⟩ => ⟨he, Duo.clock h.lt c r a f ⟨s', c', .inl e', t.mono (fun _ _ e => .inl e)⟩⟩
theorem duo_rdraw {d : Nat} (h : Duo w P B R T T2 most D (d :: D2)) : Calls Try.prog 13 #[Pt R] w fun e w' => e = .returned (.int .u64 (brt d most : Nat)) ∧ Duo w' P B R T T2 most D D2 ∧ Keeps P w w' := by
  obtain ⟨s, s2, c, r, a, f⟩ := h.own
  exact (rdraw_some r).mono fun e w' ⟨he, l⟩ => ⟨he, Duo.ref h.lt c r a f l⟩
theorem duo_more (h : Duo w P B R T T2 most D D2) {b2 : Nat} {A : Option Addr} {E : List Nat} (c : Nat) (hn : E.length ≤ c) (hc : c ≤ 9223372036854775807) (hr : Rd w b2 A E) (hE : ∀ d ∈ E, d ≤ 18446744073709551615) :
    Calls Try.prog 14 #[Pt B, .slice A E.length c] w fun e w' => e = .returned (.tuple #[]) ∧ Duo w' P B R T T2 most (D ++ E.take (65536 - D.length)) D2 ∧ Keeps P w w' := by
  obtain ⟨s, s2, k, r, a, f⟩ := h.own
  exact (more_any k (Nat.zero_le _) c hn hc hr hE).mono fun e w' ⟨he, l⟩ => ⟨he, Duo.clock h.lt k r a f l⟩
theorem duo_rmore (h : Duo w P B R T T2 most D D2) {b2 : Nat} {A : Option Addr} {E : List Nat} (c : Nat) (hn : E.length ≤ c) (hc : c ≤ 9223372036854775807) (hr : Rd w b2 A E) (hb2 : b2 ≤ w.heap.size) (hE : ∀ d ∈ E, d ≤ 18446744073709551615) :
    Calls Try.prog 15 #[Pt R, .slice A E.length c] w fun e w' => e = .returned (.tuple #[]) ∧ Duo w' P B R T T2 most D (D2 ++ E.take (65536 - D2.length)) ∧ Keeps P w w' := by
  obtain ⟨s, s2, k, r, a, f⟩ := h.own
  exact (rmore_any r (Nat.zero_le _) c hn hc hr hb2 hE).mono fun e w' ⟨he, l⟩ => ⟨he, Duo.ref h.lt k r a f l⟩
theorem duo_same (h : Duo w P B R T T most D D) (K N at_ : Nat) (on : Bool) (p : Option Addr) (m c : Nat) (hN : N ≤ 18446744073709551615) :
    Calls Try.prog 16 #[Pt B, Pt R, .agg #[.int .u8 K, .int .u64 N, .bool on, .int .u64 at_, .slice p m c]] w fun e w' => e = .returned (.bool true) ∧ Duo w' P B R T T most D D ∧ Below w.heap.size w w' := by
  obtain ⟨s, s2, k, r, a, f⟩ := h.own
  exact (same_any k r K N at_ on p m c hN).mono fun e w' ⟨he, b⟩ => ⟨he, h.new b, b⟩
theorem Duo.nums (h : Duo w P B R T T2 most D D2) : Nums T most D := let ⟨_, _, c, _⟩ := h.own; c.nums
/-- A clock that was there, and a document's clock that is made now. -/
theorem duo_made {base : Nat} {e : Ending} (hP : ∀ k, P k → k < base) (hb : base ≤ w.heap.size) (c : Own w base B T most D) (m : RMade w T2 most D2 e w1) : ∃ R, e = .returned (Pt R) ∧ Duo w1 P B R T T2 most D D2 ∧ Below w.heap.size w w1 := by
  obtain ⟨R, s2, he, hR, r, b⟩ := m
  obtain ⟨s, c0⟩ := c.own
  have hB := c0.lt
  have hso := c0.own.lt
  have hs2 := r.own.lt
  refine ⟨R, he, ⟨fun k hk => by have := hP k hk; have := b.size; omega, s, s2, (c0.new b).mono (Nat.zero_le _), r.mono (Nat.zero_le _), ⟨fun e => by omega, fun e => ?_, fun e => ?_, fun g hg e => ?_⟩, fun k hk hf => ?_⟩, b⟩
  · have := (hso R e).2; omega
  · have := (hs2 B e).1; omega
  · have := (hso g hg).2; have := (hs2 g e).1; omega
  · have h1 := hP k hk
    have := c.from_
    rcases hf with rfl | rfl | e | e
    · omega
    · omega
    · have := (hso k e).1; omega
    · have := (hs2 k e).1; omega
end
end Go.Proofs.Ytmnndheddlkbgaa
