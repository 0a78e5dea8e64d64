/- A Join in memory: a box with a list of parts; what is added behind, what is taken off ahead; the clock, the count of threads, beside the world. -/
import Derived.Test.YtdodloannlfnlaaGreatS15C
set_option linter.unusedVariables false
set_option linter.unusedSimpArgs false
namespace Go.Proofs.YtdodloannlfnlaaGreat.S17
open Go.Proofs.YtdodloannlfnlaaGreat Go.Proofs.YtdodloannlfnlaaGreat.S11 Go.Proofs.YtdodloannlfnlaaGreat.S12 Go.Proofs.YtdodloannlfnlaaGreat.S13 Go.Proofs.YtdodloannlfnlaaGreat.S14 Go.Proofs.YtdodloannlfnlaaGreat.S15
open Go.RowKit

theorem lay69 : Lay 36 96 1 16 .nilIface := ⟨Tryz.underlying36, info_of (by kernel_rfl), rfl, by decide, by decide⟩
/-- What is left of a list when its first one is gone. -/
theorem row_tail {w : World} {base : Nat} {s v : Value} {n : Nat} {L : List Value} (h : Row w base 1 s (n + 1) (v :: L)) :
    ∃ g o cap, s = .slice (some ⟨g, o, none⟩) (n + 1) cap ∧ w.cell? ⟨g, o, none⟩ = some v ∧ n + 1 ≤ cap ∧ cap ≤ maxLen ∧
      Row w base 1 (.slice (some ⟨g, if cap = 1 then o else o + 1, none⟩) n (cap - 1)) n L := by
  obtain ⟨A, cap, rfl, h0, h1, h2, h3, h4⟩ := h
  simp only [List.length_cons] at h0
  cases A with
  | none => have := h3 rfl; omega
  | some ad =>
    obtain ⟨g, o, rfl, hb, hlt, hl, hc⟩ := h4 ad rfl
    refine ⟨g, o, cap, rfl, ?_, h1, h2, _, _, rfl, by omega, by omega, by omega, (fun e => by cases e), fun ad e => ?_⟩
    · have := hl 0 v rfl
      simpa using this
    · cases e
      refine ⟨g, _, rfl, hb, hlt, ?_, ?_⟩
      · intro i u hi
        have hlen : i < L.length := (List.getElem?_eq_some_iff.1 hi).1
        rw [if_neg (by omega)]
        have := hl (i + 1) u (by simpa using hi)
        rw [show o + (i + 1) = o + 1 + i by omega] at this
        exact this
      · intro j hj
        rw [if_neg (by omega), show o + 1 + j = o + (j + 1) by omega]
        exact hc (j + 1) (by omega)
theorem row_set {w : World} {B : Nat} {cs : Array Value} {T : TypeId} (h : w.heap[B]? = some (.cells cs T (0, 0))) (o : Nat) (v : Value) : (w.setCell ⟨B, o, none⟩ v).heap[B]? = some (.cells (cs.setIfInBounds o v) T (0, 0)) := by
  simp [World.setCell, Array.getElem?_modify, h]


def jcs (t b : Int) (s : Value) : Array Value := #[.int .i64 t, .int .i64 b, s]
/-- A Join: its thread, its bits, what is left. -/
structure JnAt (w : World) (B : Nat) (t b : Int) (s : Value) (L : List Value) : Prop where
  row : w.heap[B]? = some (.cells (jcs t b s) 38 (0, 0))
  own : Row w 0 1 s L.length L
  ne : s.ownBlock ≠ some B
  one : ∀ u ∈ L, u.oneCell' = true
def joinP (B : Nat) (t b : Int) (s : Value) (L : List Value) : Part where
  ok w := JnAt w B t b s L
  fp k := k = B ∨ s.ownBlock = some k
  lt w h k e := by
    rcases e with rfl | e
    · exact (Array.getElem?_eq_some_iff.1 h.row).1
    · exact (h.own.lt k e).2
  kept S w w' h t hs := ⟨(t.block B (Array.getElem?_eq_some_iff.1 h.row).1 (hs B (.inl rfl))).trans h.row, h.own.keep t (fun g e => hs g (.inr e)), h.ne, h.one⟩
section
variable {w0 w w' : World} {base WB : Nat} {M : Sd} {r : List Part} {j B : Nat} {t b : Int} {s : Value} {L : List Value} {X : Wm}
/-- A Join, beside the world. -/
structure Jw (w0 w : World) (base WB : Nat) (M : Sd) (r : List Part) (j B : Nat) (t b : Int) (s : Value) (L : List Value) (X : Wm) : Prop where
  pg : Pg w0 w base WB M (r.set j (joinP B t b s L)) X
  hj : j < r.length
theorem Jw.new (h : Jw w0 w base WB M r j B t b s L X) (hb : Below w.heap.size w w') : Jw w0 w' base WB M r j B t b s L X := ⟨h.pg.new hb, h.hj⟩
theorem Jw.part (h : Jw w0 w base WB M r j B t b s L X) : (r.set j (joinP B t b s L))[j]? = some (joinP B t b s L) := List.getElem?_set_self h.hj
theorem Jw.at (h : Jw w0 w base WB M r j B t b s L X) : JnAt w B t b s L := h.pg.ps.ok _ _ (h.pg.part h.part)
theorem Jw.turn (h : Jw w0 w base WB M r j B t b s L X) {B' : Nat} {t' b' : Int} {s' : Value} {L' : List Value} (hq : JnAt w' B' t' b' s' L') (tn : Turns (joinP B t b s L).fp w w') (hf : ∀ k, (joinP B' t' b' s' L').fp k → (joinP B t b s L).fp k ∨ w.heap.size ≤ k) : Jw w0 w' base WB M r j B' t' b' s' L' X := by
  have := h.pg.turn h.part (joinP B' t' b' s' L') hq tn hf
  rw [List.set_set] at this
  exact ⟨this, h.hj⟩
theorem Jw.c0 (h : Jw w0 w base WB M r j B t b s L X) : w.cell? ⟨B, 0, none⟩ = some (.int .i64 t) := cell_row h.at.row 0
theorem Jw.c1 (h : Jw w0 w base WB M r j B t b s L X) : w.cell? ⟨B, 1, none⟩ = some (.int .i64 b) := cell_row h.at.row 1
theorem Jw.c2 (h : Jw w0 w base WB M r j B t b s L X) : w.cell? ⟨B, 2, none⟩ = some s := cell_row h.at.row 2
theorem Jw.f1 (h : Jw w0 w base WB M r j B t b s L X) : w.frozen? ⟨B, 1, none⟩ = false := froz_row h.at.row 1
theorem Jw.f2 (h : Jw w0 w base WB M r j B t b s L X) : w.frozen? ⟨B, 2, none⟩ = false := froz_row h.at.row 2
/-- Its bits are stored. -/
theorem Jw.setb (h : Jw w0 w base WB M r j B t b s L X) (b' : Int) : Jw w0 (w.setCell ⟨B, 1, none⟩ (.int .i64 b')) base WB M r j B t b' s L X := by
  have g := h.at
  refine h.turn ⟨?_, ?_, g.ne, g.one⟩ ((Turns.refl _ w).setCell _ _ (.inl rfl)) (fun k e => .inl e)
  · exact row_set g.row 1 _
  · exact g.own.keep ((Turns.refl (fun k => k = B) w).setCell ⟨B, 1, none⟩ _ rfl) (fun x e e2 => g.ne (by rw [e, e2]))
/-- What is left is stored: a list in the memory that it had, or in new one. -/
theorem Jw.sets (h : Jw w0 w base WB M r j B t b s L X) {w1 : World} {s' : Value} {L' : List Value} (t1 : Turns (fun k => s.ownBlock = some k) w w1) (hs : s'.ownBlock = s.ownBlock ∨ s'.ownBlock = some w.heap.size) (hr : Row w1 0 1 s' L'.length L') (h1 : ∀ u ∈ L', u.oneCell' = true) :
    Jw w0 (w1.setCell ⟨B, 2, none⟩ s') base WB M r j B t b s' L' X := by
  have g := h.at
  have hlt : B < w.heap.size := (Array.getElem?_eq_some_iff.1 g.row).1
  have hrow : w1.heap[B]? = some (.cells (jcs t b s) 38 (0, 0)) := (t1.block B hlt (fun e => g.ne e)).trans g.row
  have hne : s'.ownBlock ≠ some B := by
    rcases hs with e | e
    · rw [e]; exact g.ne
    · rw [e]; intro e2; injection e2 with e2; omega
  refine h.turn ⟨?_, ?_, hne, h1⟩ ?_ (fun k e => ?_)
  · exact row_set hrow 2 _
  · exact hr.keep ((Turns.refl (fun k => k = B) w1).setCell ⟨B, 2, none⟩ _ rfl) (fun x e e2 => hne (by rw [e, e2]))
  · exact (t1.mono (fun k _ e => .inr e)).setCell _ _ (.inl rfl)
  · rcases e with e | e
    · exact .inl (.inl e)
    · rcases hs with e2 | e2
      · exact .inl (.inr (e2 ▸ e))
      · rw [e2] at e; injection e with e; exact .inr (by omega)
theorem Jw.look (h : Jw w0 w base WB M r j B t b s L X) (a : Nat) : S2.look M.L a < 18446744073709551616 := by
  have := S2.look_lt h.pg.pw.cells.good a
  rwa [show X.L = M.L from congrArg Sd.L h.pg.xm] at this
theorem Jw.load (h : Jw w0 w base WB M r j B t b s L X) {a : Nat} (ha : a < 4294967296) (hn : M.n ≤ 1000000000) :
    Calls Tryz.prog 161 #[Pw X.cB, .int .u32 a] w fun e w' => e = .returned (.int .u64 (S2.look M.L a : Nat)) ∧ ∃ X', Jw w0 w' base WB (M.acc 1 a (S2.look M.L a)) r j B t b s L X' ∧ X'.cB = X.cB := by
  refine (h.pg.load ha hn).mono ?_
  rintro e w' ⟨rfl, X', h', e'⟩
  exact ⟨rfl, X', ⟨h', h.hj⟩, e'⟩
theorem Pg.addc (h : Pg w0 w base WB M r X) {a v : Nat} (ha : a < 4294967296) (hv : v < 18446744073709551616) (hn : M.n ≤ 1000000000) :
    Calls Tryz.prog 158 #[Pw X.cB, .int .u32 a, .int .u64 v] w fun e w' => e = .returned (.int .u64 (S2.look M.L a : Nat)) ∧ ∃ X', Pg w0 w' base WB (M.acc 5 a ((S2.look M.L a + v) % 18446744073709551616)) r X' ∧ X'.cB = X.cB := by
  have e : X.L = M.L := congrArg Sd.L h.xm
  have e2 : X.n = M.n := congrArg Sd.n h.xm
  rw [← e]
  refine (S2.add_any w X.cB X.cM X.L X.n X.k X.a X.was X.is a v h.pw.cells ha hv (by omega)).mono ?_
  rintro e w' ⟨rfl, hl⟩
  exact ⟨rfl, h.left hl⟩
/-- The clock goes on. -/
def tk (M : Sd) (n : Nat) : Sd := { M with T := S3.sat M.T n }
theorem Pg.tick (h : Pg w0 w base WB M r X) (n : Nat) (hn : n ≤ 18446744073709551615) :
    Calls Tryz.prog 60 #[Pw X.kB, .int .u64 n] w fun e w' => e = .returned (.tuple #[]) ∧ ∃ X', Pg w0 w' base WB (tk M n) r X' := by
  refine (S3.tick_any h.pw.clock n hn).mono ?_
  rintro e w' ⟨rfl, hc, ht⟩
  obtain ⟨hp, hb⟩ := t_clock (i := 1) h.ps rfl hc (fun g e => .inl e) (ht.mono (fun k _ e => .inl e))
  refine ⟨rfl, { X with T := S3.sat X.T n }, hp, h.wB, ?_, h.bl.trans hb, h.tnb⟩
  rw [← h.xm]; rfl
theorem Pg.now (h : Pg w0 w base WB M r X) : Calls Tryz.prog 28 #[Pw X.kB] w fun e w' => e = .returned (.int .u64 (M.T : Nat)) ∧ w = w' := by
  have := S3.now_any h.pw.clock
  rwa [show X.T = M.T from congrArg Sd.T h.xm] at this
theorem Pg.c1 (h : Pg w0 w base WB M r X) : w.cell? ⟨WB, 1, none⟩ = some (Pw X.kB) := by rw [← h.wB]; exact h.pw.c1
theorem Pg.c4 (h : Pg w0 w base WB M r X) : w.cell? ⟨WB, 4, none⟩ = some X.ts := by rw [← h.wB]; exact h.pw.c4
end
end Go.Proofs.YtdodloannlfnlaaGreat.S17
