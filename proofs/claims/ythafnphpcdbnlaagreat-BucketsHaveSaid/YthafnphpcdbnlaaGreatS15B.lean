/- An Enter, or an Own, in memory, beside a world. -/
import Derived.Test.YthafnphpcdbnlaaGreatS15A
set_option linter.unusedVariables false
set_option linter.unusedSimpArgs false
namespace Go.Proofs.YthafnphpcdbnlaaGreat.S15
open Go.Proofs.YthafnphpcdbnlaaGreat Go.Proofs.YthafnphpcdbnlaaGreat.S11 Go.Proofs.YthafnphpcdbnlaaGreat.S12 Go.Proofs.YthafnphpcdbnlaaGreat.S13 Go.Proofs.YthafnphpcdbnlaaGreat.S14
open Go.RowKit

/-- Where an Enter stands, and what its parts have seen: its block, its parts' row, its key's and its table's word; which part is next; is a word stale; the place; what is under way. -/
structure Wb where
  B : Nat
  PB : Nat
  KB : Nat
  TB : Nat
  i : Int
  st : Bool
  pb : Int
  pi : Int
  uv : Value
abbrev readV (B : Nat) : Value := .iface 115 (.agg #[Pw B])
abbrev askV (B : Nat) : Value := .iface 120 (.agg #[Pw B])
abbrev takeV : Value := .iface 119 (.agg #[])
abbrev leaveV : Value := .iface 121 (.agg #[])
abbrev lockU (U : Nat) : Value := .iface 202 (Pw U)
abbrev freeU (U : Nat) : Value := .iface 33 (Pw U)
def partsV (o : Bool) (KB TB : Nat) : Array Value :=
  if o then #[readV KB, readV TB, takeV, askV TB, askV KB, leaveV] else #[readV TB, takeV, askV TB, leaveV]
def nPart (o : Bool) : Nat := if o then 6 else 4
def tyE (o : Bool) : Nat := if o then 125 else 111
def wayC (o : Bool) (t : Nat) (Z : Wb) : Array Value :=
  #[.slice (some ⟨Z.PB, 0, none⟩) (nPart o) (nPart o), .int .i64 Z.i, .int .i64 (t : Int), Pw Z.KB, Pw Z.TB, .int .i64 Z.pb, .int .i64 Z.pi, .bool Z.st, Z.uv]
def wordC (a : Nat) (k : Bool) (u : Nat) : Array Value := #[.int .u32 (a : Int), .bool k, .int .u64 (u : Int)]
def kyA (o : Bool) (t : Nat) : Nat := if o then 64 + t else 0
/-- A way in memory. -/
structure WayAt (w : World) (o : Bool) (t kw tw : Nat) (Z : Wb) : Prop where
  b : w.heap[Z.B]? = some (.cells (wayC o t Z) (tyE o) (0, 0))
  p : ∃ T, w.heap[Z.PB]? = some (.cells (partsV o Z.KB Z.TB) T (0, 0))
  k : w.heap[Z.KB]? = some (.cells (wordC (kyA o t) o kw) 113 (0, 0))
  t : w.heap[Z.TB]? = some (.cells (wordC 0 false tw) 113 (0, 0))
  ne : Z.KB ≠ Z.TB
theorem heap_lt {w : World} {B : Nat} {o : Obj} (h : w.heap[B]? = some o) : B < w.heap.size := (Array.getElem?_eq_some_iff.1 h).1
def wayP (o : Bool) (t kw tw : Nat) (Z : Wb) : Part where
  ok w := WayAt w o t kw tw Z
  fp k := k = Z.B ∨ k = Z.PB ∨ k = Z.KB ∨ k = Z.TB
  lt w h k e := by
    rcases e with rfl | rfl | rfl | rfl
    · exact heap_lt h.b
    · obtain ⟨T, hp⟩ := h.p; exact heap_lt hp
    · exact heap_lt h.k
    · exact heap_lt h.t
  kept S w w' h t hs := by
    obtain ⟨T, hp⟩ := h.p
    exact ⟨(t.block _ (heap_lt h.b) (hs _ (.inl rfl))).trans h.b, ⟨T, (t.block _ (heap_lt hp) (hs _ (.inr (.inl rfl)))).trans hp⟩, (t.block _ (heap_lt h.k) (hs _ (.inr (.inr (.inl rfl))))).trans h.k, (t.block _ (heap_lt h.t) (hs _ (.inr (.inr (.inr rfl))))).trans h.t, h.ne⟩
section
variable {w w' : World} {o : Bool} {t kw tw : Nat} {Z : Wb}
theorem ty_ne (o : Bool) : tyE o ≠ 113 := by unfold tyE; cases o <;> decide
theorem WayAt.bk (h : WayAt w o t kw tw Z) : Z.B ≠ Z.KB := fun e => by
  have h1 := h.b; rw [e, h.k] at h1; injection h1 with h1; injection h1 with _ h1; exact ty_ne o h1.symm
theorem WayAt.bt (h : WayAt w o t kw tw Z) : Z.B ≠ Z.TB := fun e => by
  have h1 := h.b; rw [e, h.t] at h1; injection h1 with h1; injection h1 with _ h1; exact ty_ne o h1.symm
theorem parts_size (o : Bool) (KB TB : Nat) : (partsV o KB TB).size = nPart o := by unfold partsV nPart; cases o <;> rfl
theorem WayAt.pk (h : WayAt w o t kw tw Z) : Z.PB ≠ Z.KB := fun e => by
  obtain ⟨T, hp⟩ := h.p
  rw [e, h.k] at hp; injection hp with hp; injection hp with hp _
  have := parts_size o Z.KB Z.TB
  rw [← hp] at this
  unfold nPart at this
  cases o <;> simp [wordC] at this
theorem WayAt.pt (h : WayAt w o t kw tw Z) : Z.PB ≠ Z.TB := fun e => by
  obtain ⟨T, hp⟩ := h.p
  rw [e, h.t] at hp; injection hp with hp; injection hp with hp _
  have := parts_size o Z.KB Z.TB
  rw [← hp] at this
  unfold nPart at this
  cases o <;> simp [wordC] at this
theorem WayAt.pb (h : WayAt w o t kw tw Z) : Z.PB ≠ Z.B := fun e => by
  obtain ⟨T, hp⟩ := h.p
  rw [e, h.b] at hp; injection hp with hp; injection hp with hp _
  have := parts_size o Z.KB Z.TB
  rw [← hp] at this
  unfold nPart wayC at this
  cases o <;> simp at this
theorem heap_set_ne {w : World} {a : Addr} {v : Value} {B : Nat} (h : B ≠ a.block) : (w.setCell a v).heap[B]? = w.heap[B]? := Below.heap_setCell _ _ _ _ h
/-- A cell of the way's own block turns. -/
theorem WayAt.put (h : WayAt w o t kw tw Z) (i : Nat) (v : Value) (Z' : Wb) (e : (wayC o t Z).setIfInBounds i v = wayC o t Z') (e1 : Z'.B = Z.B) (e2 : Z'.PB = Z.PB) (e3 : Z'.KB = Z.KB) (e4 : Z'.TB = Z.TB) : WayAt (w.setCell ⟨Z.B, i, none⟩ v) o t kw tw Z' := by
  obtain ⟨T, hp⟩ := h.p
  refine ⟨?_, ⟨T, ?_⟩, ?_, ?_, ?_⟩
  · rw [e1]; exact set_blk h.b i v _ e
  · rw [e2, e3, e4, heap_set_ne h.pb]; exact hp
  · rw [e3, heap_set_ne (fun e => h.bk e.symm)]; exact h.k
  · rw [e4, heap_set_ne (fun e => h.bt e.symm)]; exact h.t
  · rw [e3, e4]; exact h.ne
theorem WayAt.putT (h : WayAt w o t kw tw Z) (v : Nat) : WayAt (w.setCell ⟨Z.TB, 2, none⟩ (.int .u64 (v : Int))) o t kw v Z := by
  obtain ⟨T, hp⟩ := h.p
  refine ⟨?_, ⟨T, ?_⟩, ?_, ?_, h.ne⟩
  · rw [heap_set_ne h.bt]; exact h.b
  · rw [heap_set_ne h.pt]; exact hp
  · rw [heap_set_ne h.ne]; exact h.k
  · exact set_blk h.t 2 _ _ rfl
theorem WayAt.putK (h : WayAt w o t kw tw Z) (v : Nat) : WayAt (w.setCell ⟨Z.KB, 2, none⟩ (.int .u64 (v : Int))) o t v tw Z := by
  obtain ⟨T, hp⟩ := h.p
  refine ⟨?_, ⟨T, ?_⟩, ?_, ?_, h.ne⟩
  · rw [heap_set_ne h.bk]; exact h.b
  · rw [heap_set_ne h.pk]; exact hp
  · exact set_blk h.k 2 _ _ rfl
  · rw [heap_set_ne (fun e => h.ne e.symm)]; exact h.t
end
end Go.Proofs.YthafnphpcdbnlaaGreat.S15
