/- The parts of a way: read, ask, take, leave; begin and step. -/
import Derived.Test.YthafnphpcdbnlaaGreatS15B
import Derived.StillTailTactics
import Derived.Deep.RegionHeld3
import Derived.Deep.QuietTactic
import Derived.BigQuiet
set_option linter.unusedVariables false
set_option linter.unusedSimpArgs false
namespace Go.Proofs.YthafnphpcdbnlaaGreat.S15
open Go.Proofs.YthafnphpcdbnlaaGreat Go.Proofs.YthafnphpcdbnlaaGreat.S11 Go.Proofs.YthafnphpcdbnlaaGreat.S12 Go.Proofs.YthafnphpcdbnlaaGreat.S13 Go.Proofs.YthafnphpcdbnlaaGreat.S14
open Go.RowKit

abbrev sP (B : Nat) : Value := .pointer (some ⟨B, 2, none⟩)
theorem bits_any (u : Nat) (hu : u < 18446744073709551616) (w : World) : Calls Tryz.prog 21 #[.int .u64 (u : Int)] w fun e w' => e = .returned (.int .i64 (bitsN u : Int)) ∧ w = w' := by
  unfold bitsN
  by_cases h : 2 ≤ u
  · by_cases g : u ≤ 8
    · rw [if_pos ⟨h, g⟩]
      have d0 : decide ((u : Int) < 2) = false := decide_eq_false (by omega)
      have d1 : decide ((8 : Int) < (u : Int)) = false := decide_eq_false (by omega)
      have e1 : wrap64 (u : Int) = (u : Int) := by unfold wrap64; omega
      have e2 : IntKind.i64.wrap (u : Int) = (u : Int) := by rw [IntKind.wrap_i64]; omega
      clear h g hu
      go_enter Tryz.func21, Tryz.ntmps21
      go_wp2_with fail
      go_ret
      exact ⟨rfl, rfl⟩
    · rw [if_neg (by omega)]
      have d0 : decide ((u : Int) < 2) = false := decide_eq_false (by omega)
      have d1 : decide ((8 : Int) < (u : Int)) = true := decide_eq_true (by omega)
      clear h g hu
      go_enter Tryz.func21, Tryz.ntmps21
      go_wp2_with fail
      go_ret
      exact ⟨rfl, rfl⟩
  · rw [if_neg (by omega)]
    have d0 : decide ((u : Int) < 2) = true := decide_eq_true (by omega)
    clear h hu
    go_enter Tryz.func21, Tryz.ntmps21
    go_wp2_with fail
    go_ret
    exact ⟨rfl, rfl⟩
theorem isT_any (t : Int) (w : World) : Calls Tryz.prog 39 #[.int .i64 t] w fun e w' => e = .returned (.bool (decide (0 ≤ t ∧ t < 64))) ∧ w = w' := by
  by_cases h : 0 ≤ t
  · by_cases g : t < 64
    · rw [decide_eq_true (And.intro h g)]
      have d0 : decide ((0 : Int) ≤ t) = true := decide_eq_true h
      have d1 : decide (t < (64 : Int)) = true := decide_eq_true g
      clear h g
      go_enter Tryz.func39, Tryz.ntmps39
      go_wp2_with fail
      go_ret
      exact ⟨rfl, rfl⟩
    · rw [decide_eq_false (by omega)]
      have d0 : decide ((0 : Int) ≤ t) = true := decide_eq_true h
      have d1 : decide (t < (64 : Int)) = false := decide_eq_false g
      clear h g
      go_enter Tryz.func39, Tryz.ntmps39
      go_wp2_with fail
      go_ret
      exact ⟨rfl, rfl⟩
  · rw [decide_eq_false (by omega)]
    have d0 : decide ((0 : Int) ≤ t) = false := decide_eq_false h
    clear h
    go_enter Tryz.func39, Tryz.ntmps39
    go_wp2_with fail
    go_ret
    exact ⟨rfl, rfl⟩
/-- Place of a key. -/
def placeV (key u : Nat) : Value := .agg #[.int .i64 (bitsN u : Int), .int .i64 (bktN key u : Int)]
theorem place_any (key u : Nat) (hk : key < 4294967296) (hu : u < 18446744073709551616) (w : World) : Calls Tryz.prog 31 #[.int .u32 (key : Int), .int .u64 (u : Int)] w fun e w' => e = .returned (placeV key u) ∧ Below w.heap.size w w' := by
  have hb := fun W => bits_any u hu W
  have hh : ∀ W, Calls Tryz.prog 17 #[.int .u32 (key : Int), .int .i64 (bitsN u : Int)] W fun e w' => e = .returned (.int .i64 (bktN key u : Int)) ∧ W = w' := fun W => by
    have := S10.hash_any key (bitsN u : Nat) hk W
    rwa [bkt_hash] at this
  have HB := Lib.hid hb; have HH := Lib.hid hh
  unfold placeV
  generalize bitsN u = b at *
  generalize bktN key u = k at *
  clear hb hh hk hu
  go_enter Tryz.func31, Tryz.ntmps31
  go_wp2_with (first
    | (go_at_call 21; refine (HB.out _).mono ?_; rintro e w2 ⟨rfl, rfl⟩)
    | (go_at_call 17; refine (HH.out _).mono ?_; rintro e w3 ⟨rfl, rfl⟩))
  exact bodyPost_ret (v := .agg #[.int .i64 (b : Int), .int .i64 (k : Int)]) (by simp [results, Tryz.results31, go_sem]) rfl ⟨rfl, below1 w _⟩
theorem lockOf_any (b i : Int) (w : World) : Calls Tryz.prog 18 #[.agg #[.int .i64 b, .int .i64 i]] w fun e w' => e = .returned (.int .u32 (S10.lockZ b i)) ∧ Below w.heap.size w w' := by
  have HL := Lib.hid (fun W => S10.lock_any b i W)
  generalize S10.lockZ b i = a at *
  go_enter Tryz.func18, Tryz.ntmps18
  go_wp2_with (go_at_call 23; refine (HL.out _).mono ?_; rintro e w2 ⟨rfl, rfl⟩)
  go_ret
  exact ⟨rfl, below1 _ _⟩
theorem rbegin_any (p s : Value) (hp : ∃ B, p = Pw B) (w : World) : Calls Tryz.prog 98 #[.agg #[p], s] w fun e w' => e = .returned (.bool true) ∧ Below w.heap.size w w' := by
  obtain ⟨B, rfl⟩ := hp
  go_enter Tryz.func98, Tryz.ntmps98
  go_wp2_with fail
  go_ret
  exact ⟨rfl, below1 _ _⟩
theorem abegin_any {s : Bool} {w : World} {B Q : Nat} (c : w.cell? ⟨B, 7, none⟩ = some (.bool s)) : Calls Tryz.prog 116 #[.agg #[Pw Q], sP B] w fun e w' => e = .returned (.bool (!s)) ∧ Below w.heap.size w w' := by
  have hb := below1 w (.cells #[Pw Q] 120)
  have c1 : (w.alloc (.cells #[Pw Q] 120)).cell? ⟨B, 7, none⟩ = some (.bool s) := bcell hb c
  have HB := Lib.hid hb
  clear hb c
  go_enter Tryz.func116, Tryz.ntmps116
  go_upto_region 1 with (fail)
  generalize w.alloc (.cells #[Pw Q] 120) = w1 at *
  cases s
  all_goals
    go_wp2_with fail
    go_ret
    exact ⟨rfl, HB.out⟩
section
variable {w0 w w' : World} {base WB : Nat} {M : Sd} {r : List Part} {j : Nat} {o : Bool} {t kw tw : Nat} {Z : Wb} {X : Wm}
/-- A way beside the world. -/
structure Wy (w0 w : World) (base WB : Nat) (M : Sd) (r : List Part) (j : Nat) (o : Bool) (t kw tw : Nat) (Z : Wb) (X : Wm) : Prop where
  pg : Pg w0 w base WB M (r.set j (wayP o t kw tw Z)) X
  hj : j < r.length
theorem Wy.new (h : Wy w0 w base WB M r j o t kw tw Z X) (b : Below w.heap.size w w') : Wy w0 w' base WB M r j o t kw tw Z X := ⟨h.pg.new b, h.hj⟩
theorem Wy.part (h : Wy w0 w base WB M r j o t kw tw Z X) : (r.set j (wayP o t kw tw Z))[j]? = some (wayP o t kw tw Z) := List.getElem?_set_self h.hj
theorem Wy.at (h : Wy w0 w base WB M r j o t kw tw Z X) : WayAt w o t kw tw Z := h.pg.ps.ok _ _ (h.pg.part h.part)
theorem Wy.turn (h : Wy w0 w base WB M r j o t kw tw Z X) {o' : Bool} {t' kw' tw' : Nat} {Z' : Wb} (hq : WayAt w' o' t' kw' tw' Z') (tn : Turns (wayP o t kw tw Z).fp w w') (hf : ∀ k, (wayP o' t' kw' tw' Z').fp k → (wayP o t kw tw Z).fp k ∨ w.heap.size ≤ k) : Wy w0 w' base WB M r j o' t' kw' tw' Z' X := by
  have := h.pg.turn h.part (wayP o' t' kw' tw' Z') hq tn hf
  rw [List.set_set] at this
  exact ⟨this, h.hj⟩
theorem Wy.put (h : Wy w0 w base WB M r j o t kw tw Z X) (i : Nat) (v : Value) (Z' : Wb) (e : (wayC o t Z).setIfInBounds i v = wayC o t Z') (e1 : Z'.B = Z.B) (e2 : Z'.PB = Z.PB) (e3 : Z'.KB = Z.KB) (e4 : Z'.TB = Z.TB) : Wy w0 (w.setCell ⟨Z.B, i, none⟩ v) base WB M r j o t kw tw Z' X :=
  h.turn (h.at.put i v Z' e e1 e2 e3 e4) ((Turns.refl _ w).setCell ⟨Z.B, i, none⟩ _ (.inl rfl)) (fun k hk => .inl (by
    rcases hk with e | e | e | e
    · exact .inl (e.trans e1)
    · exact .inr (.inl (e.trans e2))
    · exact .inr (.inr (.inl (e.trans e3)))
    · exact .inr (.inr (.inr (e.trans e4)))))
theorem Wy.putT (h : Wy w0 w base WB M r j o t kw tw Z X) (v : Nat) : Wy w0 (w.setCell ⟨Z.TB, 2, none⟩ (.int .u64 (v : Int))) base WB M r j o t kw v Z X :=
  h.turn (h.at.putT v) ((Turns.refl _ w).setCell ⟨Z.TB, 2, none⟩ _ (.inr (.inr (.inr rfl)))) (fun k hk => .inl hk)
theorem Wy.putK (h : Wy w0 w base WB M r j o t kw tw Z X) (v : Nat) : Wy w0 (w.setCell ⟨Z.KB, 2, none⟩ (.int .u64 (v : Int))) base WB M r j o t v tw Z X :=
  h.turn (h.at.putK v) ((Turns.refl _ w).setCell ⟨Z.KB, 2, none⟩ _ (.inr (.inr (.inl rfl)))) (fun k hk => .inl hk)
theorem Wy.c (h : Wy w0 w base WB M r j o t kw tw Z X) : w.cell? ⟨Z.B, 0, none⟩ = some (.slice (some ⟨Z.PB, 0, none⟩) (nPart o) (nPart o)) ∧ w.cell? ⟨Z.B, 1, none⟩ = some (.int .i64 Z.i) ∧ w.cell? ⟨Z.B, 2, none⟩ = some (.int .i64 (t : Int)) ∧ w.cell? ⟨Z.B, 3, none⟩ = some (Pw Z.KB) ∧ w.cell? ⟨Z.B, 4, none⟩ = some (Pw Z.TB) ∧ w.cell? ⟨Z.B, 5, none⟩ = some (.int .i64 Z.pb) ∧ w.cell? ⟨Z.B, 6, none⟩ = some (.int .i64 Z.pi) ∧ w.cell? ⟨Z.B, 7, none⟩ = some (.bool Z.st) ∧ w.cell? ⟨Z.B, 8, none⟩ = some Z.uv :=
  ⟨cell_row h.at.b 0, cell_row h.at.b 1, cell_row h.at.b 2, cell_row h.at.b 3, cell_row h.at.b 4, cell_row h.at.b 5, cell_row h.at.b 6, cell_row h.at.b 7, cell_row h.at.b 8⟩
theorem Wy.kc (h : Wy w0 w base WB M r j o t kw tw Z X) : w.cell? ⟨Z.KB, 0, none⟩ = some (.int .u32 (kyA o t : Int)) ∧ w.cell? ⟨Z.KB, 2, none⟩ = some (.int .u64 (kw : Int)) := ⟨cell_row h.at.k 0, cell_row h.at.k 2⟩
theorem Wy.tc (h : Wy w0 w base WB M r j o t kw tw Z X) : w.cell? ⟨Z.TB, 0, none⟩ = some (.int .u32 0) ∧ w.cell? ⟨Z.TB, 2, none⟩ = some (.int .u64 (tw : Int)) := ⟨cell_row h.at.t 0, cell_row h.at.t 2⟩
theorem Wy.ks (h : Wy w0 w base WB M r j o t kw tw Z X) : w.cell? ⟨Z.KB, 1, none⟩ = some (.bool o) ∧ w.cell? ⟨Z.TB, 1, none⟩ = some (.bool false) := ⟨cell_row h.at.k 1, cell_row h.at.t 1⟩
theorem Wy.fz (h : Wy w0 w base WB M r j o t kw tw Z X) (i : Nat) : w.frozen? ⟨Z.B, i, none⟩ = false ∧ w.frozen? ⟨Z.KB, i, none⟩ = false ∧ w.frozen? ⟨Z.TB, i, none⟩ = false := ⟨froz_row h.at.b i, froz_row h.at.k i, froz_row h.at.t i⟩
theorem Wy.lt (h : Wy w0 w base WB M r j o t kw tw Z X) : Z.B < w.heap.size ∧ Z.KB < w.heap.size ∧ Z.TB < w.heap.size := ⟨heap_lt h.at.b, heap_lt h.at.k, heap_lt h.at.t⟩
/-- A load of a world's cell, beside the way. -/
theorem Wy.load (h : Wy w0 w base WB M r j o t kw tw Z X) {a : Nat} (ha : a < 4294967296) (hn : M.n ≤ 1000000000) :
    Calls Tryz.prog 55 #[Pw X.cB, .int .u32 a] w fun e w' => e = .returned (.int .u64 (S2.look M.L a : Nat)) ∧ ∃ X', Wy w0 w' base WB (M.acc 1 a (S2.look M.L a)) r j o t kw tw Z X' ∧ X'.cB = X.cB := by
  refine (h.pg.load ha hn).mono ?_
  rintro e w' ⟨rfl, X', h', e'⟩
  exact ⟨rfl, X', ⟨h', h.hj⟩, e'⟩
end
end Go.Proofs.YthafnphpcdbnlaaGreat.S15
