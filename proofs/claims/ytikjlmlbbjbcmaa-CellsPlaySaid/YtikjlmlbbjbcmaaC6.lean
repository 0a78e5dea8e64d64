/- Cells of a call's own, from a base on: the accesses once more. -/
import Derived.Test.YtikjlmlbbjbcmaaC5
namespace Go.Proofs.Ytikjlmlbbjbcmaa
open Go.RowKit Go.Maps Go.ChangeMaps Go.MapKept

/-- Cells whose blocks all lie from base on. -/
structure St (w : World) (base B : Nat) (L : LL) (n k a was is : Nat) : Prop where
  size : base ≤ w.heap.size
  from_ : base ≤ B
  own : ∃ M, CellsAt w B M L n k a was is ∧ ∀ m, M = some m → base ≤ m
theorem St.good {w : World} {base B : Nat} {L : LL} {n k a was is : Nat} (h : St w base B L n k a was is) : Good L := let ⟨_, c, _⟩ := h.own; c.good
theorem St.lt {w : World} {base B : Nat} {L : LL} {n k a was is : Nat} (h : St w base B L n k a was is) : B < w.heap.size := let ⟨_, c, _⟩ := h.own; c.lt B (.inl rfl)
theorem St.left {w w' : World} {base B : Nat} {M : Option Nat} {L L' : LL} {n k a was is n' k' a' was' is' : Nat} (h : St w base B L n k a was is) (hm : ∀ m, M = some m → base ≤ m) (l : Left w w' B M L' n' k' a' was' is') : St w' base B L' n' k' a' was' is' ∧ Below base w w' := by
  obtain ⟨M', c, m, b⟩ := l.below h.size h.from_ hm
  exact ⟨⟨Nat.le_trans h.size b.size, h.from_, M', c, m⟩, b⟩
/-- New blocks, and blocks that are not these cells', may turn. -/
theorem St.new {w w' : World} {base B : Nat} {L : LL} {n k a was is : Nat} (h : St w base B L n k a was is) (b : Below w.heap.size w w') : St w' base B L n k a was is := by
  obtain ⟨M, c, m⟩ := h.own
  exact ⟨Nat.le_trans h.size b.size, h.from_, M, c.kept (Turns.of_below (S := fun _ => False) b) (fun _ _ e => e), m⟩
theorem row_turns {S : Nat → Prop} {w w' : World} {base e size n : Nat} {v : Value} {xs : List Value} (h : w.ownsRow base e size v n xs) (t : Turns S w w') (hs : ∀ k, base ≤ k → ¬ S k) : w'.ownsRow base e size v n xs := by
  obtain ⟨h1, h2⟩ := h
  refine ⟨h1, ?_⟩
  rcases h2 with h2 | ⟨g, cap, cur, hv, hg, hh, r⟩
  · exact .inl h2
  · exact .inr ⟨g, cap, cur, hv, hg, (t.block g (Array.getElem?_eq_some_iff.1 hh).1 (hs g hg)).trans hh, r⟩
theorem st_new (w : World) : Calls Try.prog 8 #[.slice none 0 0] w fun e w' => e = .returned (Pt w.heap.size) ∧ St w' w.heap.size w.heap.size [] 0 0 0 0 0 ∧ Below w.heap.size w w' :=
  (new_none w).mono fun _ _ ⟨he, hc, hb⟩ => ⟨he, ⟨hb.size, Nat.le_refl _, none, hc, fun m e => by cases e⟩, hb⟩
theorem st_load (w : World) (base B : Nat) (L : LL) (n k0 a0 was is a : Nat) (h : St w base B L n k0 a0 was is) (ha : a < 4294967296) (hn : n < 4611686018427387904) :
    Calls Try.prog 18 #[Pt B, .int .u32 a] w fun e w' => e = .returned (.int .u64 (look L a : Nat)) ∧ St w' base B (putL L a (bring a (look L a))) (n + 1) 1 a (look L a) (bring a (look L a)) ∧ Below base w w' := by
  obtain ⟨M, c, m⟩ := h.own
  exact (load_any w B M L n k0 a0 was is a c ha hn).mono fun _ _ ⟨he, l⟩ => ⟨he, h.left m l⟩
theorem st_store (w : World) (base B : Nat) (L : LL) (n k0 a0 was is a v : Nat) (h : St w base B L n k0 a0 was is) (ha : a < 4294967296) (hv : v < 18446744073709551616) (hn : n < 4611686018427387904) :
    Calls Try.prog 19 #[Pt B, .int .u32 a, .int .u64 v] w fun e w' => e = .returned (.int .u64 (look L a : Nat)) ∧ St w' base B (putL L a (bring a (v))) (n + 1) 2 a (look L a) (bring a (v)) ∧ Below base w w' := by
  obtain ⟨M, c, m⟩ := h.own
  exact (store_any w B M L n k0 a0 was is a v c ha hv hn).mono fun _ _ ⟨he, l⟩ => ⟨he, h.left m l⟩
theorem st_swap (w : World) (base B : Nat) (L : LL) (n k0 a0 was is a v : Nat) (h : St w base B L n k0 a0 was is) (ha : a < 4294967296) (hv : v < 18446744073709551616) (hn : n < 4611686018427387904) :
    Calls Try.prog 20 #[Pt B, .int .u32 a, .int .u64 v] w fun e w' => e = .returned (.int .u64 (look L a : Nat)) ∧ St w' base B (putL L a (bring a (v))) (n + 1) 4 a (look L a) (bring a (v)) ∧ Below base w w' := by
  obtain ⟨M, c, m⟩ := h.own
  exact (swap_any w B M L n k0 a0 was is a v c ha hv hn).mono fun _ _ ⟨he, l⟩ => ⟨he, h.left m l⟩
theorem st_add (w : World) (base B : Nat) (L : LL) (n k0 a0 was is a v : Nat) (h : St w base B L n k0 a0 was is) (ha : a < 4294967296) (hv : v < 18446744073709551616) (hn : n < 4611686018427387904) :
    Calls Try.prog 21 #[Pt B, .int .u32 a, .int .u64 v] w fun e w' => e = .returned (.int .u64 (look L a : Nat)) ∧ St w' base B (putL L a (bring a ((look L a + v) % 18446744073709551616))) (n + 1) 5 a (look L a) (bring a ((look L a + v) % 18446744073709551616)) ∧ Below base w w' := by
  obtain ⟨M, c, m⟩ := h.own
  exact (add_any w B M L n k0 a0 was is a v c ha hv hn).mono fun _ _ ⟨he, l⟩ => ⟨he, h.left m l⟩
theorem st_and (w : World) (base B : Nat) (L : LL) (n k0 a0 was is a v : Nat) (h : St w base B L n k0 a0 was is) (ha : a < 4294967296) (hv : v < 18446744073709551616) (hn : n < 4611686018427387904) :
    Calls Try.prog 22 #[Pt B, .int .u32 a, .int .u64 v] w fun e w' => e = .returned (.int .u64 (look L a : Nat)) ∧ St w' base B (putL L a (bring a (look L a &&& v))) (n + 1) 6 a (look L a) (bring a (look L a &&& v)) ∧ Below base w w' := by
  obtain ⟨M, c, m⟩ := h.own
  exact (and_any w B M L n k0 a0 was is a v c ha hv hn).mono fun _ _ ⟨he, l⟩ => ⟨he, h.left m l⟩
theorem st_or (w : World) (base B : Nat) (L : LL) (n k0 a0 was is a v : Nat) (h : St w base B L n k0 a0 was is) (ha : a < 4294967296) (hv : v < 18446744073709551616) (hn : n < 4611686018427387904) :
    Calls Try.prog 23 #[Pt B, .int .u32 a, .int .u64 v] w fun e w' => e = .returned (.int .u64 (look L a : Nat)) ∧ St w' base B (putL L a (bring a (look L a ||| v))) (n + 1) 7 a (look L a) (bring a (look L a ||| v)) ∧ Below base w w' := by
  obtain ⟨M, c, m⟩ := h.own
  exact (or_any w B M L n k0 a0 was is a v c ha hv hn).mono fun _ _ ⟨he, l⟩ => ⟨he, h.left m l⟩
theorem st_cas (w : World) (base B : Nat) (L : LL) (n k0 a0 was is a u v : Nat) (h : St w base B L n k0 a0 was is) (ha : a < 4294967296) (hv : v < 18446744073709551616) (hn : n < 4611686018427387904) :
    Calls Try.prog 17 #[Pt B, .int .u32 a, .int .u64 u, .int .u64 v] w fun e w' => e = .returned (.tuple #[.int .u64 (look L a : Nat), .bool (decide (look L a = u))]) ∧ St w' base B (putL L a (bring a (casV (look L a) u v))) (n + 1) 3 a (look L a) (bring a (casV (look L a) u v)) ∧ Below base w w' := by
  obtain ⟨M, c, m⟩ := h.own
  exact (cas_any w B M L n k0 a0 was is a u v c ha hv hn).mono fun _ _ ⟨he, l⟩ => ⟨he, h.left m l⟩
theorem st_peek (w : World) (base B : Nat) (L : LL) (n k0 a0 was is a : Nat) (h : St w base B L n k0 a0 was is) (ha : a < 4294967296) :
    Calls Try.prog 12 #[Pt B, .int .u32 a] w fun e w' => e = .returned (.int .u64 (look L a : Nat)) ∧ w = w' := by
  obtain ⟨M, c, m⟩ := h.own
  exact peek_any w B M L n k0 a0 was is a c ha
theorem st_count (w : World) (base B : Nat) (L : LL) (n k0 a0 was is : Nat) (h : St w base B L n k0 a0 was is) :
    Calls Try.prog 24 #[Pt B] w fun e w' => e = .returned (.int .i64 n) ∧ w = w' := by
  obtain ⟨M, c, m⟩ := h.own
  exact count_any w B M L n k0 a0 was is c
theorem st_last (w : World) (base B : Nat) (L : LL) (n k0 a0 was is : Nat) (h : St w base B L n k0 a0 was is) :
    Calls Try.prog 25 #[Pt B] w fun e w' => e = .returned (.agg #[.int .u8 k0, .int .u32 a0, .int .u64 was, .int .u64 is]) ∧ Below w.heap.size w w' := by
  obtain ⟨M, c, m⟩ := h.own
  exact last_any w B M L n k0 a0 was is c
end Go.Proofs.Ytikjlmlbbjbcmaa
