/- Runners in memory. -/
import Derived.Test.YthafnphpcdbnlaaGreatS15Q
set_option linter.unusedVariables false
set_option linter.unusedSimpArgs false
namespace Go.Proofs.YthafnphpcdbnlaaGreat.S15
open Go.Proofs.YthafnphpcdbnlaaGreat Go.Proofs.YthafnphpcdbnlaaGreat.S11 Go.Proofs.YthafnphpcdbnlaaGreat.S12 Go.Proofs.YthafnphpcdbnlaaGreat.S13 Go.Proofs.YthafnphpcdbnlaaGreat.S14
open Go.RowKit

/-- The runners' block, and what stands in each of its cells. -/
def RunsAt (w : World) (B : Nat) (C : Nat → Value) : Prop := ∃ cs : Array Value, w.heap[B]? = some (.cells cs 35 (0, 0)) ∧ cs.size = 20 ∧ ∀ i, i < 20 → cs[i]? = some (C i)
def runP (B : Nat) (C : Nat → Value) : Part where
  ok w := RunsAt w B C
  fp k := k = B
  lt w h k e := by
    obtain ⟨cs, h, _⟩ := h
    rw [e]; exact heap_lt h
  kept S w w' h t hs := by
    obtain ⟨cs, h, g⟩ := h
    exact ⟨cs, (t.block B (heap_lt h) (hs B rfl)).trans h, g⟩
def updC (C : Nat → Value) (i : Nat) (v : Value) : Nat → Value := fun j => if j = i then v else C j
theorem updC_same (C : Nat → Value) (i : Nat) (v : Value) : updC C i v i = v := if_pos rfl
theorem updC_else {C : Nat → Value} {i j : Nat} {v : Value} (h : j ≠ i) : updC C i v j = C j := if_neg h
section
variable {w : World} {B i : Nat} {C : Nat → Value}
theorem RunsAt.cell (h : RunsAt w B C) (hi : i < 20) : w.cell? ⟨B, i, none⟩ = some (C i) := by
  obtain ⟨cs, h, _, g⟩ := h
  rw [cell_row h]; exact g i hi
theorem RunsAt.froz (h : RunsAt w B C) : w.frozen? ⟨B, i, none⟩ = false := by
  obtain ⟨cs, h, _, g⟩ := h
  exact froz_row h i
theorem RunsAt.set (h : RunsAt w B C) (hi : i < 20) (v : Value) : RunsAt (w.setCell ⟨B, i, none⟩ v) B (updC C i v) := by
  obtain ⟨cs, h, hs, g⟩ := h
  refine ⟨cs.setIfInBounds i v, row_set h i v, by rw [Array.size_setIfInBounds]; exact hs, fun k hk => ?_⟩
  by_cases e : k = i
  · subst e
    rw [updC_same, Array.getElem?_setIfInBounds_self_of_lt (by omega)]
  · rw [updC_else e, Array.getElem?_setIfInBounds_ne (Ne.symm e)]
    exact g k hk
end
/-- A way in its place, what is under way in its own. -/
structure WayIn (r : List Part) (j u : Nat) (E : En) (Z : Wb) : Prop where
  p : r[j]? = some (wayP E.ow E.t E.kw E.tw Z)
  i : Z.i = (E.at : Int)
  st : Z.st = decide (E.ln = 6)
  k : E.ln = 3 → ∃ U, r[u]? = some (lockP U E.K) ∧ Z.uv = lockU U
  f : E.ln = 6 → ∃ U, r[u]? = some (freeP U E.F) ∧ Z.uv = freeU U
  pl : 3 ≤ E.ln ∨ E.ln = 0 → Z.pb = (bitsN E.tw : Int) ∧ Z.pi = (bktN (E.kw % 4294967296) E.tw : Int)
section
variable {w0 w w' : World} {base WB : Nat} {M : Sd} {r r' : List Part} {j u : Nat} {E : En} {Z : Wb} {X : Wm}
theorem WayIn.ew (h : WayIn r j u E Z) (g : Pg w0 w base WB M r X) (ju : j ≠ u) (hu : u < r.length) : Ew w0 w base WB M r j u E Z X :=
  ⟨⟨by rw [set_eq h.p]; exact g, (List.getElem?_eq_some_iff.1 h.p).1⟩, ju, hu, h.i, h.st, h.k, h.f, h.pl⟩
theorem ew_in (h : Ew w0 w base WB M r j u E Z X) : Pg w0 w base WB M (r.set j (wayP E.ow E.t E.kw E.tw Z)) X ∧ WayIn (r.set j (wayP E.ow E.t E.kw E.tw Z)) j u E Z :=
  ⟨h.wy.pg, List.getElem?_set_self h.wy.hj, h.i, h.st, fun e => by
    obtain ⟨U, g1, g2⟩ := h.k e
    exact ⟨U, (List.getElem?_set_ne h.ju).trans g1, g2⟩, fun e => by
    obtain ⟨U, g1, g2⟩ := h.f e
    exact ⟨U, (List.getElem?_set_ne h.ju).trans g1, g2⟩, h.pl⟩
theorem WayIn.keep (h : WayIn r j u E Z) (hj : r'[j]? = r[j]?) (hu : r'[u]? = r[u]?) : WayIn r' j u E Z :=
  ⟨hj.trans h.p, h.i, h.st, fun e => by
    obtain ⟨U, g1, g2⟩ := h.k e
    exact ⟨U, hu.trans g1, g2⟩, fun e => by
    obtain ⟨U, g1, g2⟩ := h.f e
    exact ⟨U, hu.trans g1, g2⟩, h.pl⟩
/-- What begins, in a place where something else stood. -/
theorem Pg.enterAt {o : Bool} {t kw : Nat} (h : Pg w0 w base WB M r X) {v : Value} (hn : NewE w w' o t kw v) (hj : j < r.length) {E : En} (e1 : E.ow = o) (e2 : E.t = t) (e3 : E.kw = kw) (e4 : E.tw = 0) (el : E.ln = if o then 1 else 2) :
    ∃ Z : Wb, v = Pw Z.B ∧ Pg w0 w' base WB M (r.set j (wayP E.ow E.t E.kw E.tw Z)) X ∧ WayIn (r.set j (wayP E.ow E.t E.kw E.tw Z)) j u E Z := by
  obtain ⟨Z, rfl, ha, hb, hi, hs, h1, h2, h3, h4⟩ := hn
  have hp : r[j]? = some r[j] := List.getElem?_eq_getElem hj
  have g := h.turn (w' := w') hp (wayP o t kw 0 Z) ha (Turns.of_below (S := (r[j]).fp) hb) (fun k hk => .inr (by
    rcases hk with rfl | rfl | rfl | rfl
    · exact h1
    · exact h2
    · exact h3
    · exact h4))
  obtain ⟨o', ln, t', kw', tw', K, F⟩ := E
  have e1' : o' = o := e1
  have e2' : t' = t := e2
  have e3' : kw' = kw := e3
  have e4' : tw' = 0 := e4
  have el' : ln = if o then 1 else 2 := el
  subst e1' e2' e3' e4' el'
  refine ⟨Z, rfl, g, ?_⟩
  cases o'
  · exact ⟨List.getElem?_set_self hj, hi, hs, fun e => absurd e (by show ¬ 2 = 3; omega), fun e => absurd e (by show ¬ 2 = 6; omega), fun e => absurd e (by show ¬ (3 ≤ 2 ∨ 2 = 0); omega)⟩
  · exact ⟨List.getElem?_set_self hj, hi, hs, fun e => absurd e (by show ¬ 1 = 3; omega), fun e => absurd e (by show ¬ 1 = 6; omega), fun e => absurd e (by show ¬ (3 ≤ 1 ∨ 1 = 0); omega)⟩
/-- A Free that begins, in a place where something else stood. -/
theorem Pg.freeAt (h : Pg w0 w base WB M r X) (K : Fr) (hj : j < r.length) : Pg w0 (w.alloc (.cells K.cs 85)) base WB M (r.set j (freeP w.heap.size K)) X := by
  have hp : r[j]? = some r[j] := List.getElem?_eq_getElem hj
  exact h.turn hp (freeP w.heap.size K) (heap_alloc_new w _) ((Turns.refl _ w).alloc _) (fun k hk => .inr (Nat.le_of_eq (show k = w.heap.size from hk).symm))
end
abbrev nl : Value := .pointer none
/-- How runner i stands. -/
def RAt (r : List Part) (C : Nat → Value) (i : Nat) (R : Rn) : Prop :=
  C (5 * i) = .int .i64 (i : Int) ∧ (∃ kk : Nat, C (5 * i + 1) = .int .u32 (kk : Int) ∧ (R.k = 1 → R.E.ow = false → kk = R.E.kw)) ∧
  ((R.k = 0 ∧ C (5 * i + 2) = nl ∧ C (5 * i + 3) = nl ∧ C (5 * i + 4) = nl) ∨
   (R.k = 1 ∧ R.E.ow = false ∧ C (5 * i + 3) = nl ∧ C (5 * i + 4) = nl ∧ ∃ Z, C (5 * i + 2) = Pw Z.B ∧ WayIn r (1 + 2 * i) (2 + 2 * i) R.E Z) ∨
   (R.k = 1 ∧ R.E.ow = true ∧ C (5 * i + 2) = nl ∧ C (5 * i + 4) = nl ∧ ∃ Z, C (5 * i + 3) = Pw Z.B ∧ WayIn r (1 + 2 * i) (2 + 2 * i) R.E Z) ∨
   (R.k = 2 ∧ C (5 * i + 2) = nl ∧ C (5 * i + 3) = nl ∧ ∃ U, C (5 * i + 4) = Pw U ∧ r[1 + 2 * i]? = some (freeP U R.F)))
theorem RAt.keep {r r' : List Part} {C C' : Nat → Value} {i : Nat} {R : Rn} (h : RAt r C i R) (h1 : r'[1 + 2 * i]? = r[1 + 2 * i]?) (h2 : r'[2 + 2 * i]? = r[2 + 2 * i]?) (hC : ∀ m, 5 * i ≤ m → m < 5 * i + 5 → C' m = C m) : RAt r' C' i R := by
  unfold RAt
  rw [hC _ (by omega) (by omega), hC (5 * i + 1) (by omega) (by omega), hC (5 * i + 2) (by omega) (by omega), hC (5 * i + 3) (by omega) (by omega), hC (5 * i + 4) (by omega) (by omega)]
  obtain ⟨a, b, c⟩ := h
  refine ⟨a, b, ?_⟩
  rcases c with c | ⟨c1, c2, c3, c4, Z, c5, c6⟩ | ⟨c1, c2, c3, c4, Z, c5, c6⟩ | ⟨c1, c2, c3, U, c4, c5⟩
  · exact .inl c
  · exact .inr (.inl ⟨c1, c2, c3, c4, Z, c5, c6.keep h1 h2⟩)
  · exact .inr (.inr (.inl ⟨c1, c2, c3, c4, Z, c5, c6.keep h1 h2⟩))
  · exact .inr (.inr (.inr ⟨c1, c2, c3, U, c4, h1.trans c5⟩))
/-- The runners' block, beside the world and their ways. -/
structure Rw (w0 w : World) (base WB AB : Nat) (M : Sd) (r : List Part) (C : Nat → Value) (X : Wm) : Prop where
  pg : Pg w0 w base WB M r X
  len : r.length = 9
  p0 : r[0]? = some (runP AB C)
section
variable {w0 w w' : World} {base WB AB : Nat} {M : Sd} {r r' : List Part} {C : Nat → Value} {X : Wm} {i j : Nat} {R : Nat → Rn}
theorem Rw.at (h : Rw w0 w base WB AB M r C X) : RunsAt w AB C := h.pg.ps.ok _ _ (h.pg.part h.p0)
theorem Rw.new (h : Rw w0 w base WB AB M r C X) (b : Below w.heap.size w w') : Rw w0 w' base WB AB M r C X := ⟨h.pg.new b, h.len, h.p0⟩
theorem Rw.put (h : Rw w0 w base WB AB M r C X) {m : Nat} (hm : m < 20) (v : Value) : Rw w0 (w.setCell ⟨AB, m, none⟩ v) base WB AB M (r.set 0 (runP AB (updC C m v))) (updC C m v) X := by
  refine ⟨h.pg.turn h.p0 (runP AB (updC C m v)) (h.at.set hm v) ((Turns.refl _ w).setCell _ _ rfl) (fun k e => .inl e), by rw [List.length_set]; exact h.len, List.getElem?_set_self (by rw [h.len]; omega)⟩
/-- All of them. -/
structure Runs (w0 w : World) (base WB AB : Nat) (M : Sd) (R : Nat → Rn) (r : List Part) (C : Nat → Value) (X : Wm) : Prop where
  rw' : Rw w0 w base WB AB M r C X
  at_ : ∀ i, i < 4 → RAt r C i (R i)
  inv : Inv M R
  eok : ∀ i, i < 4 → (R i).k = 1 → EnOk (R i).E
  fok : ∀ i, i < 4 → (R i).k = 2 → FOk (R i).F
  ms : 0 ≤ M.sp ∧ M.sp ≤ 16
theorem Runs.new (h : Runs w0 w base WB AB M R r C X) (b : Below w.heap.size w w') : Runs w0 w' base WB AB M R r C X := ⟨h.rw'.new b, h.at_, h.inv, h.eok, h.fok, h.ms⟩
/-- One of them turns; the others are as they were. -/
theorem Runs.turn (h : Runs w0 w base WB AB M R r C X) {M' : Sd} {rn : Rn} {C' : Nat → Value} {X' : Wm} (hi : i < 4) (g : Rw w0 w' base WB AB M' r' C' X') (ha : RAt r' C' i rn) (hv : Inv M' (updR R i rn)) (he : rn.k = 1 → EnOk rn.E) (hf : rn.k = 2 → FOk rn.F) (hs : M'.sp = M.sp)
    (hr : ∀ k, k ≠ 0 → k ≠ 1 + 2 * i → k ≠ 2 + 2 * i → r'[k]? = r[k]?) (hC : ∀ m, ¬ (5 * i ≤ m ∧ m < 5 * i + 5) → C' m = C m) : Runs w0 w' base WB AB M' (updR R i rn) r' C' X' := by
  refine ⟨g, fun k hk => ?_, hv, fun k hk => ?_, fun k hk => ?_, by rw [hs]; exact h.ms⟩
  · by_cases e : k = i
    · subst e; rw [updR_same]; exact ha
    · rw [updR_else e]
      exact (h.at_ k hk).keep (hr _ (by omega) (by omega) (by omega)) (hr _ (by omega) (by omega) (by omega)) (fun m h1 h2 => hC m (by omega))
  · by_cases e : k = i
    · subst e; rw [updR_same]; exact he
    · rw [updR_else e]; exact h.eok k hk
  · by_cases e : k = i
    · subst e; rw [updR_same]; exact hf
    · rw [updR_else e]; exact h.fok k hk
end
end Go.Proofs.YthafnphpcdbnlaaGreat.S15
