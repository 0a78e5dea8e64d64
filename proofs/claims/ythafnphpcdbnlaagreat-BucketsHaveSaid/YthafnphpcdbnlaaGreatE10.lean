/- Texts of this seat, one behind the other. -/
import Derived.Test.YthafnphpcdbnlaaGreatE1
import Derived.Deep.RegionHeld
import Derived.RegionTactic
import Derived.Deep.CutRange
import Derived.Deep.LoopGhost
import Derived.Deep.RegionLaw
import Derived.Deep.DrawnRows
import Derived.Deep.QuietTactic
import Derived.BigQuiet
import Derived.Laws.StructEq
import Derived.Shelf.Abstract
import Derived.Lib.SliceRun
set_option linter.unusedVariables false
set_option linter.unusedSimpArgs false
namespace Go.Proofs.YthafnphpcdbnlaaGreat.S11
open Go.Proofs.YthafnphpcdbnlaaGreat
open Go.RowKit

section
variable {w : World} {S E sz bt : Nat} {z : Value}
theorem wp_append_row (L : Lay S E sz bt z) {o : Oper} {a : Act} {K : Act → World → Prop} {Q : Exit → Act → World → Prop} (s x : Operand)
    (ho : o.op = .call { callee := .builtin .append, args := #[s, x], argTypes := #[S, S] }) {base n : Nat} {v : Value} {cs : List Value} (hs : a.eval s = v) (h : Row w base sz v n cs) (h1c : ∀ u ∈ cs, u.oneCell' = true) (hbase : base ≤ w.heap.size)
    {b2 : Nat} {A : Option Addr} {m : Nat} {es : List Value} (c : Nat) (hx : a.eval x = .slice A m c) (hr : Rd w b2 A es) (hm : es.length = m * sz) (h1e : ∀ u ∈ es, u.oneCell' = true) (hlen : n + m ≤ 3000000)
    (hK : ∀ v' w', Row w' base sz v' (n + m) (cs ++ es) → Turns (fun k => v.ownBlock = some k) w w' → (v'.ownBlock = v.ownBlock ∨ v'.ownBlock = some w.heap.size) → K (a.put o.dst v') w') : o.wp Tryz.prog a w K Q := by
  obtain ⟨v', w', hrun, h2, h3, h4⟩ := row_append L h h1c hbase c hr hm h1e hlen o.type
  unfold Oper.wp execOp
  simp only [ho, resolve, invoke, builtin, Sem.run_bind, Sem.run_pure, Result.andThen_ok, List.map_toArray, List.map_cons, List.map_nil, hs, hx, hrun]
  exact hK v' w' h2 h3 h4
theorem wpList_append_row (L : Lay S E sz bt z) {ops : Array Oper} {rest : List Oper} {o : Oper} {a : Act} {Q : Exit → Act → World → Prop} (hgd : o.guard = none) (s x : Operand)
    (ho : o.op = .call { callee := .builtin .append, args := #[s, x], argTypes := #[S, S] }) {base n : Nat} {v : Value} {cs : List Value} (hs : a.eval s = v) (h : Row w base sz v n cs) (h1c : ∀ u ∈ cs, u.oneCell' = true) (hbase : base ≤ w.heap.size)
    {b2 : Nat} {A : Option Addr} {m : Nat} {es : List Value} (c : Nat) (hx : a.eval x = .slice A m c) (hr : Rd w b2 A es) (hm : es.length = m * sz) (h1e : ∀ u ∈ es, u.oneCell' = true) (hlen : n + m ≤ 3000000)
    (hK : ∀ v' w', Row w' base sz v' (n + m) (cs ++ es) → Turns (fun k => v.ownBlock = some k) w w' → (v'.ownBlock = v.ownBlock ∨ v'.ownBlock = some w.heap.size) → wpList Tryz.prog ops Q rest (a.put o.dst v') w') : wpList Tryz.prog ops Q (o :: rest) a w :=
  wpList_plain hgd fun _ hK' => wp_append_row L s x ho hs h h1c hbase c hx hr hm h1e hlen fun v' w' h2 h3 h4 => hK' _ _ (hK v' w' h2 h3 h4)
theorem step_append_row (L : Lay S E sz bt z) {ops : Array Oper} {o : Oper} {a : Act} {K : Act → World → Prop} {Q : Exit → Act → World → Prop} {F : Prop} (hgd : o.guard = none) (s x : Operand)
    (ho : o.op = .call { callee := .builtin .append, args := #[s, x], argTypes := #[S, S] }) {base n : Nat} {v : Value} {cs : List Value} (hs : a.eval s = v) (h : Row w base sz v n cs) (h1c : ∀ u ∈ cs, u.oneCell' = true) (hbase : base ≤ w.heap.size)
    {b2 : Nat} {A : Option Addr} {m : Nat} {es : List Value} (c : Nat) (hx : a.eval x = .slice A m c) (hr : Rd w b2 A es) (hm : es.length = m * sz) (h1e : ∀ u ∈ es, u.oneCell' = true) (hlen : n + m ≤ 3000000)
    (hK : ∀ v' w', Row w' base sz v' (n + m) (cs ++ es) → Turns (fun k => v.ownBlock = some k) w w' → (v'.ownBlock = v.ownBlock ∨ v'.ownBlock = some w.heap.size) → K (a.put o.dst v') w') :
    if Region.wanted o (yielded ops a.tmps) = true then Oper.wp Tryz.prog o a w K Q else F := by
  have hw : Region.wanted o (yielded ops a.tmps) = true := by simp [Region.wanted, hgd]
  rw [if_pos hw]
  exact wp_append_row L s x ho hs h h1c hbase c hx hr hm h1e hlen hK
end
theorem info_of {E sz bt : Nat} {z : Value} (h : (Tryz.prog.info? E).map (fun i => (i.zero, i.size, i.bytes)) = some (some z, sz, bt)) : ∃ i, Tryz.prog.info? E = some i ∧ i.zero = some z ∧ i.size = sz ∧ i.bytes = bt := by
  cases e : Tryz.prog.info? E with
  | none => rw [e] at h; cases h
  | some i =>
    rw [e] at h
    simp at h
    exact ⟨i, rfl, h.1, h.2.1, h.2.2⟩
/-- A note: its step, thread, kind, address, other thread, other address, value. -/
structure Nt where
  s : Int
  t : Int
  k : Nat
  a : Int
  o : Int
  b : Int
  v : Int
deriving DecidableEq
instance : Inhabited Nt := ⟨⟨0, 0, 0, 0, 0, 0, 0⟩⟩
def Nt.cs (K : IntKind) (e : Nt) : List Value := [.int .i64 e.s, .int .i64 e.t, .int K (e.k : Int), .int .u32 e.a, .int .i64 e.o, .int .u32 e.b, .int .u64 e.v]
abbrev ag (K : IntKind) (e : Nt) : Value := .agg #[.int .i64 e.s, .int .i64 e.t, .int K (e.k : Int), .int .u32 e.a, .int .i64 e.o, .int .u32 e.b, .int .u64 e.v]
theorem layP : Lay 154 220 7 48 (.agg #[.int .i64 0, .int .i64 0, .int .u8 0, .int .u32 0, .int .i64 0, .int .u32 0, .int .u64 0]) := ⟨Tryz.underlying154, info_of (by kernel_rfl), rfl, by decide, by decide⟩
def flat (K : IntKind) (D : List Nt) : List Value := D.flatMap (Nt.cs K)
section
variable (K : IntKind)
theorem flat_nil : flat K [] = [] := rfl
theorem flat_one (e : Nt) : flat K [e] = [.int .i64 e.s, .int .i64 e.t, .int K (e.k : Int), .int .u32 e.a, .int .i64 e.o, .int .u32 e.b, .int .u64 e.v] := rfl
theorem flat_app (D F : List Nt) : flat K (D ++ F) = flat K D ++ flat K F := by simp [flat]
theorem flat_len (D : List Nt) : (flat K D).length = D.length * 7 := by
  induction D with
  | nil => rfl
  | cons e r ih =>
    have : flat K (e :: r) = e.cs K ++ flat K r := rfl
    rw [this, List.length_append, ih]
    simp [Nt.cs]
    omega
theorem flat_one' (D : List Nt) : ∀ u ∈ flat K D, u.oneCell' = true := fun u hu => by
  simp only [flat, List.mem_flatMap] at hu
  obtain ⟨e, _, hu⟩ := hu
  simp [Nt.cs] at hu
  rcases hu with rfl | rfl | rfl | rfl | rfl | rfl | rfl <;> rfl
theorem flat_drop : ∀ (D : List Nt) (i : Nat), (flat K D).drop (i * 7) = flat K (D.drop i)
  | D, 0 => by simp
  | [], i + 1 => by simp [flat]
  | e :: r, i + 1 => by
    have h := flat_drop r i
    have e3 : flat K (e :: r) = e.cs K ++ flat K r := rfl
    rw [e3, show (i + 1) * 7 = (e.cs K).length + i * 7 by simp [Nt.cs]; omega, List.drop_append, Nat.add_sub_cancel_left, h, List.drop_eq_nil_of_le (Nat.le_add_right _ _)]
    simp
theorem flat_get (D : List Nt) (i : Nat) (hi : i < D.length) (j : Nat) (hj : j < 7) : (flat K D)[i * 7 + j]? = (D[i]!.cs K)[j]? := by
  rw [← List.getElem?_drop, flat_drop]
  have : D.drop i = D[i]! :: D.drop (i + 1) := by
    rw [List.drop_eq_getElem_cons hi]; simp [hi]
  rw [this]
  have e3 : flat K (D[i]! :: D.drop (i + 1)) = D[i]!.cs K ++ flat K (D.drop (i + 1)) := rfl
  rw [e3, List.getElem?_append_left (by simp [Nt.cs]; omega)]
end
/-- A note's seven cells. -/
structure NtAt (w : World) (K : IntKind) (g o : Nat) (e : Nt) : Prop where
  c0 : w.cell? ⟨g, o, none⟩ = some (.int .i64 e.s)
  c1 : w.cell? ⟨g, o + 1, none⟩ = some (.int .i64 e.t)
  c2 : w.cell? ⟨g, o + 2, none⟩ = some (.int K (e.k : Int))
  c3 : w.cell? ⟨g, o + 3, none⟩ = some (.int .u32 e.a)
  c4 : w.cell? ⟨g, o + 4, none⟩ = some (.int .i64 e.o)
  c5 : w.cell? ⟨g, o + 5, none⟩ = some (.int .u32 e.b)
  c6 : w.cell? ⟨g, o + 6, none⟩ = some (.int .u64 e.v)
theorem Lies.note {w : World} {K : IntKind} {g o : Nat} {D : List Nt} (h : Lies w g o (flat K D)) {i : Nat} (hi : i < D.length) : NtAt w K g (o + i * 7) D[i]! := by
  have hx : ∀ j u, (D[i]!.cs K)[j]? = some u → w.cell? ⟨g, o + i * 7 + j, none⟩ = some u := fun j u hu => by
    have hj : j < 7 := (List.getElem?_eq_some_iff.1 hu).1
    have := h (i * 7 + j) u ((flat_get K D i hi j hj).trans hu)
    rwa [← Nat.add_assoc] at this
  exact ⟨hx 0 _ rfl, hx 1 _ rfl, hx 2 _ rfl, hx 3 _ rfl, hx 4 _ rfl, hx 5 _ rfl, hx 6 _ rfl⟩
theorem Rd.note {w : World} {K : IntKind} {base : Nat} {A : Option Addr} {D : List Nt} (h : Rd w base A (flat K D)) {i : Nat} (hi : i < D.length) : ∃ g o, A = some ⟨g, o, none⟩ ∧ g < base ∧ NtAt w K g (o + i * 7) D[i]! := by
  obtain ⟨g, o, e, hg, hl⟩ := h (by rw [flat_len]; omega)
  exact ⟨g, o, e, hg, hl.note hi⟩
/-- A list that is read from a place on. -/
theorem Lies.from {w : World} {K : IntKind} {g o : Nat} {D : List Nt} (h : Lies w g o (flat K D)) (i : Nat) : Lies w g (o + i * 7) (flat K (D.drop i)) := fun j u e => by
  rw [← flat_drop, List.getElem?_drop] at e
  have := h _ u e
  rwa [← Nat.add_assoc] at this
theorem neq37 (d e : Nt) (w : World) : (binOp .neq 220 (ag .u8 d) (ag .u8 e)).run Tryz.prog w = .ok (.bool (!decide (d = e))) w := by
  obtain ⟨s, t, k, a, o, b, v⟩ := d; obtain ⟨s', t', k', a', o', b', v'⟩ := e
  simp [go_sem, Tryz.underlying220]
  by_cases h1 : s = s' <;> by_cases h2 : t = t' <;> by_cases h3 : k = k' <;> by_cases h4 : a = a' <;> by_cases h5 : o = o' <;> by_cases h6 : b = b' <;> by_cases h7 : v = v' <;> simp [h1, h2, h3, h4, h5, h6, h7, Int.ofNat_inj]
end Go.Proofs.YthafnphpcdbnlaaGreat.S11
namespace Go.Proofs.YthafnphpcdbnlaaGreat.S4
open Go.Proofs.YthafnphpcdbnlaaGreat Go.Proofs.YthafnphpcdbnlaaGreat.S11
open Go.RowKit

abbrev Pt (B : Nat) : Value := .pointer (some ⟨B, 0, none⟩)
/-- A parker: its permit, whether it is asleep, its deadline. -/
structure Pk where
  p : Bool
  a : Bool
  o : Bool
  t : Nat
deriving DecidableEq
instance : Inhabited Pk := ⟨⟨false, false, false, 0⟩⟩
def pk0 : Pk := ⟨false, false, false, 0⟩
abbrev pkV (x : Pk) : Value := .agg #[.bool x.p, .bool x.a, .bool x.o, .int .u64 (x.t : Int)]
structure PkAt (w : World) (B : Nat) (f : Nat → Pk) (n kd pk : Int) : Prop where
  lt : B < w.heap.size
  c0 : ∀ i, i < 128 → w.cell? ⟨B, i * 4, none⟩ = some (.bool (f i).p)
  c1 : ∀ i, i < 128 → w.cell? ⟨B, i * 4 + 1, none⟩ = some (.bool (f i).a)
  c2 : ∀ i, i < 128 → w.cell? ⟨B, i * 4 + 2, none⟩ = some (.bool (f i).o)
  c3 : ∀ i, i < 128 → w.cell? ⟨B, i * 4 + 3, none⟩ = some (.int .u64 ((f i).t : Int))
  cn : w.cell? ⟨B, 512, none⟩ = some (.int .i64 n)
  ck : w.cell? ⟨B, 513, none⟩ = some (.int .u8 kd)
  cp : w.cell? ⟨B, 514, none⟩ = some (.int .i64 pk)
  fz : ∀ i, w.frozen? ⟨B, i, none⟩ = false
section
variable {w w' : World} {B : Nat} {f : Nat → Pk} {n kd pk : Int}
theorem PkAt.kept {T : Nat → Prop} (h : PkAt w B f n kd pk) (t : Turns T w w') (hB : ¬ T B) : PkAt w' B f n kd pk :=
  ⟨Nat.lt_of_lt_of_le h.lt t.size, fun i hi => (t.cell h.lt hB).trans (h.c0 i hi), fun i hi => (t.cell h.lt hB).trans (h.c1 i hi), fun i hi => (t.cell h.lt hB).trans (h.c2 i hi), fun i hi => (t.cell h.lt hB).trans (h.c3 i hi), (t.cell h.lt hB).trans h.cn, (t.cell h.lt hB).trans h.ck, (t.cell h.lt hB).trans h.cp, fun i => (t.frozen h.lt hB).trans (h.fz i)⟩
theorem PkAt.new (h : PkAt w B f n kd pk) (b : Below w.heap.size w w') : PkAt w' B f n kd pk := h.kept (Turns.of_below (S := fun _ => False) b) (fun e => e)
theorem PkAt.drew (h : PkAt w B f n kd pk) : PkAt w.drew B f n kd pk := ⟨h.lt, h.c0, h.c1, h.c2, h.c3, h.cn, h.ck, h.cp, h.fz⟩
end
theorem cset {w : World} {B i j : Nat} {v : Value} (h : i ≠ j) : (w.setCell ⟨B, i, none⟩ v).cell? ⟨B, j, none⟩ = w.cell? ⟨B, j, none⟩ :=
  World.cell?_setCell_other _ _ _ _ (by intro e; injection e with _ e2; exact h e2)
/-- The count. -/
theorem PkAt.setN {w : World} {B : Nat} {f : Nat → Pk} {n kd pk : Int} (h : PkAt w B f n kd pk) (m : Int) : PkAt (w.setCell ⟨B, 512, none⟩ (.int .i64 m)) B f m kd pk :=
  ⟨by simpa [World.setCell] using h.lt, fun i hi => (cset (by omega)).trans (h.c0 i hi), fun i hi => (cset (by omega)).trans (h.c1 i hi), fun i hi => (cset (by omega)).trans (h.c2 i hi), fun i hi => (cset (by omega)).trans (h.c3 i hi), World.cell?_setCell_same _ _ _ h.cn, (cset (by omega)).trans h.ck, (cset (by omega)).trans h.cp, fun i => by rw [World.frozen?_setCell]; exact h.fz i⟩
theorem PkAt.setK {w : World} {B : Nat} {f : Nat → Pk} {n kd pk : Int} (h : PkAt w B f n kd pk) (m : Int) : PkAt (w.setCell ⟨B, 513, none⟩ (.int .u8 m)) B f n m pk :=
  ⟨by simpa [World.setCell] using h.lt, fun i hi => (cset (by omega)).trans (h.c0 i hi), fun i hi => (cset (by omega)).trans (h.c1 i hi), fun i hi => (cset (by omega)).trans (h.c2 i hi), fun i hi => (cset (by omega)).trans (h.c3 i hi), (cset (by omega)).trans h.cn, World.cell?_setCell_same _ _ _ h.ck, (cset (by omega)).trans h.cp, fun i => by rw [World.frozen?_setCell]; exact h.fz i⟩
theorem PkAt.setP {w : World} {B : Nat} {f : Nat → Pk} {n kd pk : Int} (h : PkAt w B f n kd pk) (m : Int) : PkAt (w.setCell ⟨B, 514, none⟩ (.int .i64 m)) B f n kd m :=
  ⟨by simpa [World.setCell] using h.lt, fun i hi => (cset (by omega)).trans (h.c0 i hi), fun i hi => (cset (by omega)).trans (h.c1 i hi), fun i hi => (cset (by omega)).trans (h.c2 i hi), fun i hi => (cset (by omega)).trans (h.c3 i hi), (cset (by omega)).trans h.cn, (cset (by omega)).trans h.ck, World.cell?_setCell_same _ _ _ h.cp, fun i => by rw [World.frozen?_setCell]; exact h.fz i⟩
def updP (f : Nat → Pk) (i : Nat) (x : Pk) : Nat → Pk := fun j => if j = i then x else f j
/-- One parker's permit. -/
theorem PkAt.setPermit {w : World} {B : Nat} {f : Nat → Pk} {n kd pk : Int} (h : PkAt w B f n kd pk) {i : Nat} (hi : i < 128) (b : Bool) : PkAt (w.setCell ⟨B, i * 4, none⟩ (.bool b)) B (updP f i { f i with p := b }) n kd pk := by
  have hj : ∀ j, j ≠ i → updP f i { f i with p := b } j = f j := fun j e => by simp [updP, e]
  have he : updP f i { f i with p := b } i = { f i with p := b } := by simp [updP]
  refine ⟨by simpa [World.setCell] using h.lt, fun j hl => ?_, fun j hl => (cset (by omega)).trans ?_, fun j hl => (cset (by omega)).trans ?_, fun j hl => (cset (by omega)).trans ?_, (cset (by omega)).trans h.cn, (cset (by omega)).trans h.ck, (cset (by omega)).trans h.cp, fun j => by rw [World.frozen?_setCell]; exact h.fz j⟩
  · by_cases e : j = i
    · subst e; rw [he]; exact World.cell?_setCell_same _ _ _ (h.c0 j hl)
    · rw [hj j e]; exact (cset (by omega)).trans (h.c0 j hl)
  · rw [h.c1 j hl]; by_cases e : j = i
    · subst e; rw [he]
    · rw [hj j e]
  · rw [h.c2 j hl]; by_cases e : j = i
    · subst e; rw [he]
    · rw [hj j e]
  · rw [h.c3 j hl]; by_cases e : j = i
    · subst e; rw [he]
    · rw [hj j e]
/-- A whole parker. -/
theorem PkAt.setAll {w : World} {B : Nat} {f : Nat → Pk} {n kd pk : Int} (h : PkAt w B f n kd pk) {i : Nat} (hi : i < 128) (x : Pk) :
    PkAt ((((w.setCell ⟨B, i * 4, none⟩ (.bool x.p)).setCell ⟨B, i * 4 + 1, none⟩ (.bool x.a)).setCell ⟨B, i * 4 + 2, none⟩ (.bool x.o)).setCell ⟨B, i * 4 + 3, none⟩ (.int .u64 (x.t : Int))) B (updP f i x) n kd pk := by
  have hj : ∀ j, j ≠ i → updP f i x j = f j := fun j e => by simp [updP, e]
  have he : updP f i x i = x := by simp [updP]
  have far : ∀ k v, (k ≠ i * 4 ∧ k ≠ i * 4 + 1 ∧ k ≠ i * 4 + 2 ∧ k ≠ i * 4 + 3) → w.cell? ⟨B, k, none⟩ = some v → ((((w.setCell ⟨B, i * 4, none⟩ (.bool x.p)).setCell ⟨B, i * 4 + 1, none⟩ (.bool x.a)).setCell ⟨B, i * 4 + 2, none⟩ (.bool x.o)).setCell ⟨B, i * 4 + 3, none⟩ (.int .u64 (x.t : Int))).cell? ⟨B, k, none⟩ = some v := fun k v hk e => by
    rw [cset (by omega), cset (by omega), cset (by omega), cset (by omega)]; exact e
  refine ⟨by simpa [World.setCell] using h.lt, fun j hl => ?_, fun j hl => ?_, fun j hl => ?_, fun j hl => ?_, far _ _ (by omega) h.cn, far _ _ (by omega) h.ck, far _ _ (by omega) h.cp, fun j => by rw [World.frozen?_setCell, World.frozen?_setCell, World.frozen?_setCell, World.frozen?_setCell]; exact h.fz j⟩
  · by_cases e : j = i
    · subst e; rw [he, cset (by omega), cset (by omega), cset (by omega)]; exact World.cell?_setCell_same _ _ _ (h.c0 j hl)
    · rw [hj j e]; exact far _ _ (by omega) (h.c0 j hl)
  · by_cases e : j = i
    · subst e; rw [he, cset (by omega), cset (by omega)]; exact World.cell?_setCell_same _ _ _ ((cset (by omega)).trans (h.c1 j hl))
    · rw [hj j e]; exact far _ _ (by omega) (h.c1 j hl)
  · by_cases e : j = i
    · subst e; rw [he, cset (by omega)]; exact World.cell?_setCell_same _ _ _ ((cset (by omega)).trans ((cset (by omega)).trans (h.c2 j hl)))
    · rw [hj j e]; exact far _ _ (by omega) (h.c2 j hl)
  · by_cases e : j = i
    · subst e; rw [he]; exact World.cell?_setCell_same _ _ _ ((cset (by omega)).trans ((cset (by omega)).trans ((cset (by omega)).trans (h.c3 j hl))))
    · rw [hj j e]; exact far _ _ (by omega) (h.c3 j hl)
/-- A set as it is at first. -/
def blkP : List Value := [.bool false, .bool false, .bool false, .int .u64 0]
def ZPn (n : Nat) : Array Value := ((List.replicate n blkP).flatten ++ [Value.int .i64 0, Value.int .u8 0, Value.int .i64 0]).toArray
def ZP : Array Value := ZPn 128
theorem zero166 (w : World) : (zeroValue 142).run Tryz.prog w = .ok (.agg ZP) w := by kernel_rfl
theorem rep_get (l : List Value) (hl : l.length = 4) (r : List Value) : ∀ (n i j : Nat), i < n → j < 4 → ((List.replicate n l).flatten ++ r)[i * 4 + j]? = l[j]?
  | n + 1, 0, j, _, hj => by
    rw [List.replicate_succ, List.flatten_cons, List.append_assoc, List.getElem?_append_left (by omega)]; simp
  | n + 1, i + 1, j, hi, hj => by
    rw [List.replicate_succ, List.flatten_cons, List.append_assoc, List.getElem?_append_right (by omega)]
    rw [show (i + 1) * 4 + j - l.length = i * 4 + j by omega]
    exact rep_get l hl r n i j (by omega) hj
theorem rep_len (l : List Value) (hl : l.length = 4) (n : Nat) : (List.replicate n l).flatten.length = n * 4 := by
  induction n with
  | zero => rfl
  | succ n ih => rw [List.replicate_succ, List.flatten_cons, List.length_append, ih]; omega
theorem zpn_get (n i j : Nat) (hi : i < n) (hj : j < 4) : (ZPn n)[i * 4 + j]? = blkP[j]? := by
  unfold ZPn
  rw [List.getElem?_toArray]
  exact rep_get blkP rfl _ n i j hi hj
theorem zpn_end (n j : Nat) : (ZPn n)[n * 4 + j]? = [Value.int .i64 0, Value.int .u8 0, Value.int .i64 0][j]? := by
  unfold ZPn
  rw [List.getElem?_toArray, List.getElem?_append_right (by rw [rep_len _ rfl]; omega), rep_len _ rfl]
  congr 1; omega
theorem zp_get (i j : Nat) (hi : i < 128) (hj : j < 4) : ZP[i * 4 + j]? = blkP[j]? := zpn_get 128 i j hi hj
theorem zp_end (j : Nat) : ZP[512 + j]? = [Value.int .i64 0, Value.int .u8 0, Value.int .i64 0][j]? := zpn_end 128 j
/-- A set as it is at first: nobody asleep, no permits. -/
theorem pk_row {w : World} {B : Nat} {T : TypeId} (h : w.heap[B]? = some (.cells ZP T (0, 0))) : PkAt w B (fun _ => pk0) 0 0 0 :=
  ⟨(Array.getElem?_eq_some_iff.1 h).1, fun i hi => (cell_row h _).trans (zp_get i 0 hi (by omega)), fun i hi => (cell_row h _).trans (zp_get i 1 hi (by omega)), fun i hi => (cell_row h _).trans (zp_get i 2 hi (by omega)), fun i hi => (cell_row h _).trans (zp_get i 3 hi (by omega)), (cell_row h _).trans (zp_end 0), (cell_row h _).trans (zp_end 1), (cell_row h _).trans (zp_end 2), fun i => froz_row h i⟩
theorem pnew_any (w : World) : Calls Tryz.prog 35 #[] w fun e w' => e = .returned (Pt w.heap.size) ∧ PkAt w' w.heap.size (fun _ => pk0) 0 0 0 ∧ Below w.heap.size w w' := by
  have z := zero166
  go_enter Tryz.func35, Tryz.ntmps35
  go_wp2_with fail
  go_ret
  exact ⟨rfl, pk_row (heap_alloc_new _ _), (Below.refl _ _).alloc (Nat.le_refl _) _⟩
/-- Is a number one of a parker's? -/
def notK (x : Int) : Prop := ¬ (0 ≤ x ∧ x < 128)
theorem phas_yes (B i : Nat) (hi : i < 128) (w : World) : Calls Tryz.prog 74 #[Pt B, .int .i64 (i : Int)] w fun e w' => e = .returned (.bool true) ∧ w = w' := by
  have h1 : decide ((0 : Int) ≤ (i : Int)) = true := by simp
  have h2 : decide ((i : Int) < 128) = true := by simp; omega
  clear hi
  go_enter Tryz.func74, Tryz.ntmps74
  go_wp2
  go_ret
  exact ⟨rfl, rfl⟩
theorem phas_no (B : Nat) (x : Int) (hx : notK x) (w : World) : Calls Tryz.prog 74 #[Pt B, .int .i64 x] w fun e w' => e = .returned (.bool false) ∧ w = w' := by
  unfold notK at hx
  by_cases h : 0 ≤ x
  · have h1 : decide ((0 : Int) ≤ x) = true := by simpa using h
    have h2 : decide (x < 128) = false := by simp; omega
    clear hx h
    go_enter Tryz.func74, Tryz.ntmps74
    go_wp2
    go_ret
    exact ⟨rfl, rfl⟩
  · have h1 : decide ((0 : Int) ≤ x) = false := by simpa using h
    clear hx h
    go_enter Tryz.func74, Tryz.ntmps74
    go_wp2
    go_ret
    exact ⟨rfl, rfl⟩
theorem phas_nil (x : Int) (w : World) : Calls Tryz.prog 74 #[.pointer none, .int .i64 x] w fun e w' => e = .returned (.bool false) ∧ w = w' := by
  go_enter Tryz.func74, Tryz.ntmps74
  go_wp2
  go_ret
  exact ⟨rfl, rfl⟩
/-- What a set is behind a call that was counted. -/
def PSets (w w' : World) (B : Nat) (f : Nat → Pk) (n kd pk : Int) : Prop := PkAt w' B f n kd pk ∧ Turns (fun k => k = B) w w' ∧ w'.heap.size = w.heap.size
theorem called_yes {w : World} {B : Nat} {f : Nat → Pk} {n kd pk : Int} (h : PkAt w B f n kd pk) (hn : 0 ≤ n ∧ n ≤ 1000000000) (k : Int) {i : Nat} (hi : i < 128) :
    Calls Tryz.prog 70 #[Pt B, .int .u8 k, .int .i64 (i : Int)] w fun e w' => e = .returned (.bool true) ∧ PSets w w' B f (n + 1) k (i : Int) := by
  have c0 := h.cn; have c1 := h.ck; have c2 := h.cp
  have z0 := h.fz 512; have z1 := h.fz 513; have z2 := h.fz 514
  have hq := phas_yes B i hi
  have hwn : IntKind.i64.wrap (n + 1) = n + 1 := by rw [IntKind.wrap_i64]; omega
  have H := Lib.hid h; have HQ := Lib.hid hq
  clear h hq hn
  go_enter Tryz.func70, Tryz.ntmps70
  go_wp2_with (go_at_call 74; refine (HQ.out _).mono ?_; rintro e w' ⟨rfl, rfl⟩)
  go_ret
  refine ⟨rfl, ((H.out.setN (n + 1)).setK k).setP (i : Int), ((((Turns.refl (fun k => k = B) w).setCell ⟨B, 512, none⟩ _ rfl).setCell ⟨B, 513, none⟩ _ rfl).setCell ⟨B, 514, none⟩ _ rfl), by simp [World.setCell]⟩
theorem called_no (B : Nat) (x : Int) (hx : notK x) (k : Int) (w : World) : Calls Tryz.prog 70 #[Pt B, .int .u8 k, .int .i64 x] w fun e w' => e = .returned (.bool false) ∧ w = w' := by
  have HQ := Lib.hid (phas_no B x hx)
  clear hx
  go_enter Tryz.func70, Tryz.ntmps70
  go_wp2_with (go_at_call 74; refine (HQ.out _).mono ?_; rintro e w' ⟨rfl, rfl⟩)
  go_ret
  exact ⟨rfl, rfl⟩
theorem called_nil (x k : Int) (w : World) : Calls Tryz.prog 70 #[.pointer none, .int .u8 k, .int .i64 x] w fun e w' => e = .returned (.bool false) ∧ w = w' := by
  have HQ := Lib.hid (phas_nil x)
  go_enter Tryz.func70, Tryz.ntmps70
  go_wp2_with (go_at_call 74; refine (HQ.out _).mono ?_; rintro e w' ⟨rfl, rfl⟩)
  go_ret
  exact ⟨rfl, rfl⟩
/-- A parker prepared: an empty one. -/
theorem prepare_yes {w : World} {B : Nat} {f : Nat → Pk} {n kd pk : Int} (h : PkAt w B f n kd pk) (hn : 0 ≤ n ∧ n ≤ 1000000000) {i : Nat} (hi : i < 128) :
    Calls Tryz.prog 111 #[Pt B, .int .i64 (i : Int)] w fun e w' => e = .returned (.tuple #[]) ∧ PSets w w' B (updP f i pk0) (n + 1) 1 (i : Int) := by
  have hq := called_yes h hn 1 hi
  have HQ := Lib.hid hq
  have h1 : (i : Int) < 128 := by omega
  clear hq h hn
  go_enter Tryz.func111, Tryz.ntmps111
  go_upto_region 1 with (go_at_call 70; refine HQ.out.mono ?_; rintro e w1 ⟨rfl, hp, ht, hz⟩)
  have c0 := hp.c0 i hi; have c1 := hp.c1 i hi; have c2 := hp.c2 i hi; have c3 := hp.c3 i hi
  have z0 := hp.fz (i * 4); have z1 := hp.fz (i * 4 + 1); have z2 := hp.fz (i * 4 + 2); have z3 := hp.fz (i * 4 + 3)
  have HP := Lib.hid hp; have HT := Lib.hid ht; have HZ := Lib.hid hz
  clear hp ht hz
  go_wp2_with fail
  go_end0
  refine ⟨rfl, HP.out.setAll hi pk0, ?_, by simpa [World.setCell] using HZ.out⟩
  exact ((((HT.out.setCell ⟨B, i * 4, none⟩ _ rfl).setCell ⟨B, i * 4 + 1, none⟩ _ rfl).setCell ⟨B, i * 4 + 2, none⟩ _ rfl).setCell ⟨B, i * 4 + 3, none⟩ _ rfl)
theorem prepare_no (B : Nat) (x : Int) (hx : notK x) (w : World) : Calls Tryz.prog 111 #[Pt B, .int .i64 x] w fun e w' => e = .returned (.tuple #[]) ∧ w = w' := by
  have HQ := Lib.hid (called_no B x hx 1)
  clear hx
  go_enter Tryz.func111, Tryz.ntmps111
  go_wp2_with (go_at_call 70; refine (HQ.out _).mono ?_; rintro e w1 ⟨rfl, rfl⟩)
  (try simp only [Exit.inBlock, Exit.then])
  refine bodyPost_ret (results_none rfl _ _ _) rfl ⟨rfl, rfl⟩
/-- A permit more. -/
theorem unpark_yes {w : World} {B : Nat} {f : Nat → Pk} {n kd pk : Int} (h : PkAt w B f n kd pk) (hn : 0 ≤ n ∧ n ≤ 1000000000) {i : Nat} (hi : i < 128) :
    Calls Tryz.prog 59 #[Pt B, .int .i64 (i : Int)] w fun e w' => e = .returned (.tuple #[]) ∧ PSets w w' B (updP f i { f i with p := true }) (n + 1) 4 (i : Int) := by
  have hq := called_yes h hn 4 hi
  have HQ := Lib.hid hq
  have h1 : (i : Int) < 128 := by omega
  clear hq h hn
  go_enter Tryz.func59, Tryz.ntmps59
  go_upto_region 1 with (go_at_call 70; refine HQ.out.mono ?_; rintro e w1 ⟨rfl, hp, ht, hz⟩)
  have c0 := hp.c0 i hi
  have z0 := hp.fz (i * 4)
  have HP := Lib.hid hp; have HT := Lib.hid ht; have HZ := Lib.hid hz
  clear hp ht hz
  go_wp2_with fail
  go_end0
  exact ⟨rfl, HP.out.setPermit hi true, HT.out.setCell ⟨B, i * 4, none⟩ _ rfl, by simpa [World.setCell] using HZ.out⟩
theorem unpark_no (B : Nat) (x : Int) (hx : notK x) (w : World) : Calls Tryz.prog 59 #[Pt B, .int .i64 x] w fun e w' => e = .returned (.tuple #[]) ∧ w = w' := by
  have HQ := Lib.hid (called_no B x hx 4)
  clear hx
  go_enter Tryz.func59, Tryz.ntmps59
  go_wp2_with (go_at_call 70; refine (HQ.out _).mono ?_; rintro e w1 ⟨rfl, rfl⟩)
  (try simp only [Exit.inBlock, Exit.then])
  refine bodyPost_ret (results_none rfl _ _ _) rfl ⟨rfl, rfl⟩
/-- May whoever is at it go on? -/
def goesB (x : Pk) (now : Nat) : Bool := decide (x = pk0) || x.p || (x.o && decide (x.t ≤ now))
end Go.Proofs.YthafnphpcdbnlaaGreat.S4
namespace Go.Proofs.YthafnphpcdbnlaaGreat.S5
open Go.Proofs.YthafnphpcdbnlaaGreat
open Go.RowKit

/-- Of the blocks that were there only those in S may have turned. -/
structure Turns (S : Nat → Prop) (w w' : World) : Prop where
  os : w'.os = w.os
  tape : w'.tape = w.tape
  output : w'.output = w.output
  size : w.heap.size ≤ w'.heap.size
  block : ∀ k, k < w.heap.size → ¬ S k → w'.heap[k]? = w.heap[k]?
theorem Turns.refl (S : Nat → Prop) (w : World) : Turns S w w := ⟨rfl, rfl, rfl, Nat.le_refl _, fun _ _ _ => rfl⟩
theorem Turns.trans {S T : Nat → Prop} {a b c : World} (h : Turns S a b) (g : Turns T b c) (hs : ∀ k, k < a.heap.size → T k → S k) : Turns S a c :=
  ⟨g.os.trans h.os, g.tape.trans h.tape, g.output.trans h.output, Nat.le_trans h.size g.size, fun k hk hn => (g.block k (Nat.lt_of_lt_of_le hk h.size) (fun ht => hn (hs k hk ht))).trans (h.block k hk hn)⟩
theorem Turns.mono {S T : Nat → Prop} {a b : World} (h : Turns S a b) (hs : ∀ k, k < a.heap.size → S k → T k) : Turns T a b :=
  (Turns.refl T a).trans h hs
theorem Turns.of_below {S : Nat → Prop} {a b : World} (h : Below a.heap.size a b) : Turns S a b :=
  ⟨h.os, h.tape, h.output, h.size, fun k hk _ => h.block k hk⟩
theorem Turns.below {S : Nat → Prop} {a b : World} {B : Nat} (h : Turns S a b) (hB : B ≤ a.heap.size) (hs : ∀ k, k < B → ¬ S k) : Below B a b :=
  ⟨h.os, h.tape, h.output, h.size, fun k hk => h.block k (by omega) (hs k hk)⟩
theorem Turns.alloc {S : Nat → Prop} {a b : World} (h : Turns S a b) (o : Obj) : Turns S a (b.alloc o) :=
  h.trans (T := fun _ => False) ⟨rfl, rfl, rfl, by simp, fun k hk _ => Below.heap_alloc _ _ _ hk⟩ (fun _ _ h => h.elim)
theorem Turns.drew {S : Nat → Prop} {a b : World} (h : Turns S a b) : Turns S a b.drew :=
  ⟨h.os, h.tape, h.output, h.size, h.block⟩
theorem Turns.setCell {S : Nat → Prop} {a b : World} (h : Turns S a b) (p : Addr) (u : Value) (hp : S p.block) : Turns S a (b.setCell p u) :=
  h.trans (T := fun k => k = p.block) ⟨rfl, rfl, rfl, by simp [World.setCell], fun k _ hn => Below.heap_setCell _ _ _ _ hn⟩ (fun k _ e => e ▸ hp)
theorem Turns.setCells {S : Nat → Prop} {a b : World} (h : Turns S a b) (g : Nat) (hg : S g) : ∀ (vs : List Value) (o : Nat), Turns S a (b.setCells g o vs)
  | [], _ => h
  | v :: r, o => by
    have h1 := h.setCell ⟨g, o, none⟩ v hg
    exact Turns.setCells h1 g hg r (o + 1)
theorem Turns.cell {S : Nat → Prop} {a b : World} (h : Turns S a b) {g o : Nat} (hg : g < a.heap.size) (hn : ¬ S g) : b.cell? ⟨g, o, none⟩ = a.cell? ⟨g, o, none⟩ :=
  World.cell?_of_block (a := ⟨g, o, none⟩) (h.block g hg hn)
theorem Turns.frozen {S : Nat → Prop} {a b : World} (h : Turns S a b) {g o : Nat} (hg : g < a.heap.size) (hn : ¬ S g) : b.frozen? ⟨g, o, none⟩ = a.frozen? ⟨g, o, none⟩ :=
  World.frozen?_of_block (a := ⟨g, o, none⟩) (h.block g hg hn)

abbrev Pt (B : Nat) : Value := .pointer (some ⟨B, 0, none⟩)
def iv (d : Nat) : Value := .int .i64 (d : Int)
/-- All links of a set: 192 numbers, three a thread (one more than they say). -/
abbrev Lk := Nat → Nat
structure Has (w : World) (B : Nat) (S : Lk) : Prop where
  lt : B < w.heap.size
  cell : ∀ i, i < 192 → w.cell? ⟨B, i, none⟩ = some (.int .i64 (S i : Nat))
  froz : ∀ i, i < 192 → w.frozen? ⟨B, i, none⟩ = false
  le : ∀ i, S i ≤ 64
theorem Has.kept {T : Nat → Prop} {w w' : World} {B : Nat} {S : Lk} (h : Has w B S) (t : Turns T w w') (hB : ¬ T B) : Has w' B S :=
  ⟨Nat.lt_of_lt_of_le h.lt t.size, fun i hi => (t.cell h.lt hB).trans (h.cell i hi), fun i hi => (t.frozen h.lt hB).trans (h.froz i hi), h.le⟩
theorem Has.new {w w' : World} {B : Nat} {S : Lk} (h : Has w B S) (b : Below w.heap.size w w') : Has w' B S :=
  h.kept (Turns.of_below (S := fun _ => False) b) (fun e => e)
theorem Has.drew {w : World} {B : Nat} {S : Lk} (h : Has w B S) : Has w.drew B S := ⟨h.lt, h.cell, h.froz, h.le⟩
def upd (S : Lk) (i v : Nat) : Lk := fun j => if j = i then v else S j
theorem Has.set {w : World} {B : Nat} {S : Lk} (h : Has w B S) {i v : Nat} (hi : i < 192) (hv : v ≤ 64) : Has (w.setCell ⟨B, i, none⟩ (.int .i64 (v : Nat))) B (upd S i v) := by
  refine ⟨by simpa [World.setCell] using h.lt, fun j hj => ?_, fun j hj => by rw [World.frozen?_setCell]; exact h.froz j hj, fun j => ?_⟩
  · unfold upd
    by_cases e : j = i
    · subst e
      rw [if_pos rfl, World.cell?_setCell_same _ _ _ (h.cell j hj)]
    · rw [if_neg e, World.cell?_setCell_other _ _ _ _ (by intro e'; injection e' with _ e2; exact e e2.symm)]
      exact h.cell j hj
  · unfold upd
    split
    · exact hv
    · exact h.le j

theorem has_yes (B t : Nat) (ht : t < 64) (w : World) : Calls Tryz.prog 72 #[Pt B, .int .i64 (t : Int)] w fun e w' => e = .returned (.bool true) ∧ w = w' := by
  have h1 : decide ((0 : Int) ≤ (t : Int)) = true := by simp
  have h2 : decide ((t : Int) < 64) = true := by simp; omega
  clear ht
  go_enter Tryz.func72, Tryz.ntmps72
  go_wp2
  go_ret
  exact ⟨rfl, rfl⟩
def notT (x : Int) : Prop := ¬ (0 ≤ x ∧ x < 64)
theorem has_no (B : Nat) (x : Int) (hx : notT x) (w : World) : Calls Tryz.prog 72 #[Pt B, .int .i64 x] w fun e w' => e = .returned (.bool false) ∧ w = w' := by
  unfold notT at hx
  by_cases h : 0 ≤ x
  · have h1 : decide ((0 : Int) ≤ x) = true := by simpa using h
    have h2 : decide (x < 64) = false := by simp; omega
    clear hx h
    go_enter Tryz.func72, Tryz.ntmps72
    go_wp2
    go_ret
    exact ⟨rfl, rfl⟩
  · have h1 : decide ((0 : Int) ≤ x) = false := by simpa using h
    clear hx h
    go_enter Tryz.func72, Tryz.ntmps72
    go_wp2
    go_ret
    exact ⟨rfl, rfl⟩
theorem has_nil (x : Int) (w : World) : Calls Tryz.prog 72 #[.pointer none, .int .i64 x] w fun e w' => e = .returned (.bool false) ∧ w = w' := by
  go_enter Tryz.func72, Tryz.ntmps72
  go_wp2
  go_ret
  exact ⟨rfl, rfl⟩
end Go.Proofs.YthafnphpcdbnlaaGreat.S5
namespace Go.Proofs.YthafnphpcdbnlaaGreat.S5
open Go.Proofs.YthafnphpcdbnlaaGreat
open Go.RowKit

/-- A thread's link, as it is told. -/
def lnk (S : Lk) (t : Nat) : Value := .agg #[.int .i64 ((S (t * 3) : Int) - 1), .int .i64 ((S (t * 3 + 1) : Int) - 1), .int .i64 ((S (t * 3 + 2) : Int) - 1)]
def nolnk : Value := .agg #[.int .i64 (-1), .int .i64 (-1), .int .i64 (-1)]
theorem below1 (w : World) (o : Obj) : Below w.heap.size w (w.alloc o) := (Below.refl _ _).alloc (Nat.le_refl _) _
theorem below2 (w : World) (o p : Obj) : Below w.heap.size w ((w.alloc o).alloc p) := (below1 w o).alloc (by simp) _
theorem at_yes {w : World} {B : Nat} {S : Lk} (h : Has w B S) (t : Nat) (ht : t < 64) : Calls Tryz.prog 62 #[Pt B, .int .i64 (t : Int)] w fun e w' => e = .returned (lnk S t) ∧ Below w.heap.size w w' := by
  unfold lnk
  have hh := has_yes B t ht
  have c0 := h.cell (t * 3) (by omega)
  have c1 := h.cell (t * 3 + 1) (by omega)
  have c2 := h.cell (t * 3 + 2) (by omega)
  have l0 := h.le (t * 3)
  have l1 := h.le (t * 3 + 1)
  have l2 := h.le (t * 3 + 2)
  have hlt := h.lt
  have HH := Lib.hid hh
  clear hh h
  generalize S (t * 3) = x at *
  generalize S (t * 3 + 1) = y at *
  generalize S (t * 3 + 2) = z at *
  go_enter Tryz.func62, Tryz.ntmps62
  go_wp2_with (first
    | (go_at_call 72; refine (HH.out _).mono ?_; rintro e w' ⟨rfl, rfl⟩))
  exact bodyPost_ret (v := .agg #[.int .i64 ((x : Int) - 1), .int .i64 ((y : Int) - 1), .int .i64 ((z : Int) - 1)]) (by simp [results, Tryz.results62, go_sem]) rfl ⟨rfl, below2 w _ _⟩
theorem at_no {w : World} {B : Nat} (x : Int) (hx : notT x) : Calls Tryz.prog 62 #[Pt B, .int .i64 x] w fun e w' => e = .returned nolnk ∧ Below w.heap.size w w' := by
  unfold nolnk
  have hh := has_no B x hx
  have HH := Lib.hid hh
  clear hh
  go_enter Tryz.func62, Tryz.ntmps62
  go_wp2_with (first
    | (go_at_call 72; refine (HH.out _).mono ?_; rintro e w' ⟨rfl, rfl⟩))
  exact bodyPost_ret (v := .agg #[.int .i64 (-1), .int .i64 (-1), .int .i64 (-1)]) (by simp [results, Tryz.results62, go_sem]) rfl ⟨rfl, below1 w _⟩
theorem at_nil {w : World} (x : Int) : Calls Tryz.prog 62 #[.pointer none, .int .i64 x] w fun e w' => e = .returned nolnk ∧ Below w.heap.size w w' := by
  unfold nolnk
  have hh := has_nil x
  have HH := Lib.hid hh
  clear hh
  go_enter Tryz.func62, Tryz.ntmps62
  go_wp2_with (first
    | (go_at_call 72; refine (HH.out _).mono ?_; rintro e w' ⟨rfl, rfl⟩))
  exact bodyPost_ret (v := .agg #[.int .i64 (-1), .int .i64 (-1), .int .i64 (-1)]) (by simp [results, Tryz.results62, go_sem]) rfl ⟨rfl, below1 w _⟩
def put3 (S : Lk) (t a b c : Nat) : Lk := upd (upd (upd S (t * 3) a) (t * 3 + 1) b) (t * 3 + 2) c
theorem Has.put3 {w : World} {B : Nat} {S : Lk} (h : Has w B S) {t a b c : Nat} (ht : t < 64) (ha : a ≤ 64) (hb : b ≤ 64) (hc : c ≤ 64) :
    Has (((w.setCell ⟨B, t * 3, none⟩ (.int .i64 (a : Nat))).setCell ⟨B, t * 3 + 1, none⟩ (.int .i64 (b : Nat))).setCell ⟨B, t * 3 + 2, none⟩ (.int .i64 (c : Nat))) B (YthafnphpcdbnlaaGreat.S5.put3 S t a b c) :=
  ((h.set (by omega) ha).set (by omega) hb).set (by omega) hc
theorem turns3 (w : World) (B i j k : Nat) (x y z : Value) : Turns (fun b => b = B) w (((w.setCell ⟨B, i, none⟩ x).setCell ⟨B, j, none⟩ y).setCell ⟨B, k, none⟩ z) :=
  (((Turns.refl (fun b => b = B) w).setCell ⟨B, i, none⟩ x rfl).setCell ⟨B, j, none⟩ y rfl).setCell ⟨B, k, none⟩ z rfl
def pushed (S : Lk) (t : Nat) : Option Nat → Lk
  | some h => put3 S t (h + 1) 0 0
  | none => put3 S t 0 0 (t + 1)
/-- What is no thread, or a thread, as a number. -/
def Num (x : Int) : Option Nat → Prop
  | some t => x = (t : Int) ∧ t < 64
  | none => notT x
theorem num_any (x : Int) : ∃ o, Num x o := by
  by_cases h : 0 ≤ x ∧ x < 64
  · exact ⟨some x.toNat, by unfold Num; omega⟩
  · exact ⟨none, h⟩
theorem has_any (B : Nat) {x : Int} {o : Option Nat} (h : Num x o) (w : World) : Calls Tryz.prog 72 #[Pt B, .int .i64 x] w fun e w' => e = .returned (.bool o.isSome) ∧ w = w' := by
  cases o with
  | none => exact has_no B x h w
  | some t => obtain ⟨rfl, ht⟩ := h; exact has_yes B t ht w
theorem cast1 (t : Nat) : ((t + 1 : Nat) : Int) = (t : Int) + 1 := by omega
theorem cast0 : ((0 : Nat) : Int) = 0 := rfl
theorem push_some {w : World} {B : Nat} {S : Lk} (h : Has w B S) (t hd : Nat) (ht : t < 64) (hh : hd < 64) : Calls Tryz.prog 94 #[Pt B, .int .i64 (t : Int), .int .i64 (hd : Int)] w fun e w' => e = .returned (.tuple #[]) ∧ Has w' B (pushed S t (some hd)) ∧ Turns (fun k => k = B) w w' := by
  have h1 := has_yes B t ht
  have h2 := has_yes B hd hh
  have c0 := h.cell (t * 3) (by omega)
  have c1 := h.cell (t * 3 + 1) (by omega)
  have c2 := h.cell (t * 3 + 2) (by omega)
  have f0 := h.froz (t * 3) (by omega)
  have f1 := h.froz (t * 3 + 1) (by omega)
  have f2 := h.froz (t * 3 + 2) (by omega)
  have hp := h.put3 (t := t) (a := hd + 1) (b := 0) (c := 0) ht (by omega) (by omega) (by omega)
  rw [cast1, cast0] at hp
  have H1 := Lib.hid h1; have H2 := Lib.hid h2; have HP := Lib.hid hp
  clear h1 h2 hp h
  generalize S (t * 3) = x at *
  generalize S (t * 3 + 1) = y at *
  generalize S (t * 3 + 2) = z at *
  go_enter Tryz.func94, Tryz.ntmps94
  go_wp2_with fail
  refine (H1.out _).mono ?_
  rintro e w' ⟨rfl, rfl⟩
  go_wp2_with fail
  refine (H2.out _).mono ?_
  rintro e w' ⟨rfl, rfl⟩
  go_wp2_with fail
  (try simp only [Exit.inBlock, Exit.then]); refine bodyPost_ret (results_none rfl _ _ _) rfl ?_
  exact ⟨rfl, HP.out, turns3 _ _ _ _ _ _ _ _⟩
theorem push_none {w : World} {B : Nat} {S : Lk} (h : Has w B S) (t : Nat) (x : Int) (ht : t < 64) (hx : notT x) : Calls Tryz.prog 94 #[Pt B, .int .i64 (t : Int), .int .i64 x] w fun e w' => e = .returned (.tuple #[]) ∧ Has w' B (pushed S t none) ∧ Turns (fun k => k = B) w w' := by
  have h1 := has_yes B t ht
  have h2 := has_no B x hx
  have c0 := h.cell (t * 3) (by omega)
  have c1 := h.cell (t * 3 + 1) (by omega)
  have c2 := h.cell (t * 3 + 2) (by omega)
  have f0 := h.froz (t * 3) (by omega)
  have f1 := h.froz (t * 3 + 1) (by omega)
  have f2 := h.froz (t * 3 + 2) (by omega)
  have hp := h.put3 (t := t) (a := 0) (b := 0) (c := t + 1) ht (by omega) (by omega) (by omega)
  rw [cast1, cast0] at hp
  have H1 := Lib.hid h1; have H2 := Lib.hid h2; have HP := Lib.hid hp
  clear h1 h2 hp h
  generalize S (t * 3) = x' at *
  generalize S (t * 3 + 1) = y at *
  generalize S (t * 3 + 2) = z at *
  go_enter Tryz.func94, Tryz.ntmps94
  go_wp2_with fail
  refine (H1.out _).mono ?_
  rintro e w' ⟨rfl, rfl⟩
  go_wp2_with fail
  refine (H2.out _).mono ?_
  rintro e w' ⟨rfl, rfl⟩
  go_wp2_with fail
  go_end0
  exact ⟨rfl, HP.out, turns3 _ _ _ _ _ _ _ _⟩
theorem push_no {w : World} {B : Nat} (x y : Int) (hx : notT x) : Calls Tryz.prog 94 #[Pt B, .int .i64 x, .int .i64 y] w fun e w' => e = .returned (.tuple #[]) ∧ w = w' := by
  have h1 := has_no B x hx
  have H1 := Lib.hid h1
  clear h1
  go_enter Tryz.func94, Tryz.ntmps94
  go_wp2_with fail
  refine (H1.out _).mono ?_
  rintro e w' ⟨rfl, rfl⟩
  go_wp2_with fail
  (try simp only [Exit.inBlock, Exit.then]); refine bodyPost_ret (results_none rfl _ _ _) rfl ?_
  exact ⟨rfl, rfl⟩
theorem push_nil {w : World} (x y : Int) : Calls Tryz.prog 94 #[.pointer none, .int .i64 x, .int .i64 y] w fun e w' => e = .returned (.tuple #[]) ∧ w = w' := by
  have h1 := has_nil x
  have H1 := Lib.hid h1
  clear h1
  go_enter Tryz.func94, Tryz.ntmps94
  go_wp2_with fail
  refine (H1.out _).mono ?_
  rintro e w' ⟨rfl, rfl⟩
  go_wp2_with fail
  (try simp only [Exit.inBlock, Exit.then]); refine bodyPost_ret (results_none rfl _ _ _) rfl ?_
  exact ⟨rfl, rfl⟩
/-- What a push leaves. -/
def pushS (S : Lk) (t h : Option Nat) : Lk := match t with
  | some t => pushed S t h
  | none => S
def Sets (w w' : World) (B : Nat) (S : Lk) : Prop := Has w' B S ∧ Turns (fun k => k = B) w w'
theorem push_any {w : World} {B : Nat} {S : Lk} (h : Has w B S) {x y : Int} {t hd : Option Nat} (hx : Num x t) (hy : Num y hd) : Calls Tryz.prog 94 #[Pt B, .int .i64 x, .int .i64 y] w fun e w' => e = .returned (.tuple #[]) ∧ Sets w w' B (pushS S t hd) := by
  cases t with
  | none => exact (push_no x y hx).mono fun e w' ⟨he, hw⟩ => ⟨he, by subst hw; exact ⟨h, Turns.refl _ _⟩⟩
  | some t =>
    obtain ⟨rfl, ht⟩ := hx
    cases hd with
    | none => exact (push_none h t y ht hy).mono fun e w' ⟨he, h1, h2⟩ => ⟨he, h1, h2⟩
    | some d => obtain ⟨rfl, hd⟩ := hy; exact (push_some h t d ht hd).mono fun e w' ⟨he, h1, h2⟩ => ⟨he, h1, h2⟩
end Go.Proofs.YthafnphpcdbnlaaGreat.S5
namespace Go.Proofs.YthafnphpcdbnlaaGreat.S10
open Go.Proofs.YthafnphpcdbnlaaGreat
open Go.RowKit

def tabB (b : Int) : Bool := decide (2 ≤ b) && decide (b ≤ 8)
theorem tab_no {b : Int} (h : b < 2 ∨ 8 < b) : tabB b = false := by
  unfold tabB
  rcases h with h | h
  · rw [decide_eq_false (by omega), Bool.false_and]
  · rw [decide_eq_false (p := b ≤ 8) (by omega), Bool.and_false]
theorem tab_yes {b : Int} (h : 2 ≤ b) (g : b ≤ 8) : tabB b = true := by
  unfold tabB
  rw [decide_eq_true h, decide_eq_true g]; rfl
theorem is_any (b : Int) (w : World) : Calls Tryz.prog 41 #[.int .i64 b] w fun e w' => e = .returned (.bool (tabB b)) ∧ w = w' := by
  unfold tabB
  by_cases h : 2 ≤ b
  · rw [decide_eq_true h, Bool.true_and]
    go_enter Tryz.func41, Tryz.ntmps41
    go_wp2
    go_ret
    exact ⟨rfl, rfl⟩
  · rw [decide_eq_false h, Bool.false_and]
    have h' : b < 2 := by omega
    go_enter Tryz.func41, Tryz.ntmps41
    go_wp2
    go_ret
    exact ⟨rfl, rfl⟩
/-- How many buckets a table has. -/
def sizeN (b : Int) : Nat := if 2 ≤ b ∧ b ≤ 8 then 2 ^ b.toNat else 0
theorem seven {b : Int} (h : 2 ≤ b) (g : b ≤ 8) : b = 2 ∨ b = 3 ∨ b = 4 ∨ b = 5 ∨ b = 6 ∨ b = 7 ∨ b = 8 := by omega
theorem size_no (b : Int) (h : b < 2 ∨ 8 < b) (w : World) : Calls Tryz.prog 22 #[.int .i64 b] w fun e w' => e = .returned (.int .i64 0) ∧ w = w' := by
  have q := is_any b w
  rw [tab_no h] at q
  have Q := Lib.hid q
  clear q h
  go_enter Tryz.func22, Tryz.ntmps22
  go_wp2_with fail
  refine Q.out.mono ?_
  rintro e w' ⟨rfl, rfl⟩
  go_wp2_with fail
  go_ret
  exact ⟨rfl, rfl⟩
theorem size_at (b : Int) (n : Int) (h : 2 ≤ b) (g : b ≤ 8) (hn : n = ((2 ^ b.toNat : Nat) : Int)) (w : World) : Calls Tryz.prog 22 #[.int .i64 b] w fun e w' => e = .returned (.int .i64 n) ∧ w = w' := by
  have q := is_any b w
  rw [tab_yes h g] at q
  have Q := Lib.hid q
  clear q
  rcases seven h g with rfl | rfl | rfl | rfl | rfl | rfl | rfl
  all_goals
    subst hn
    clear h g
    go_enter Tryz.func22, Tryz.ntmps22
    go_wp2_with fail
    refine Q.out.mono ?_
    rintro e w' ⟨rfl, rfl⟩
    go_wp2_with fail
    go_ret
    exact ⟨rfl, rfl⟩
theorem size_any (b : Int) (w : World) : Calls Tryz.prog 22 #[.int .i64 b] w fun e w' => e = .returned (.int .i64 (sizeN b : Nat)) ∧ w = w' := by
  by_cases h : 2 ≤ b ∧ b ≤ 8
  · refine size_at b _ h.1 h.2 ?_ w
    unfold sizeN
    rw [if_pos h]
  · have := size_no b (by omega) w
    unfold sizeN
    rw [if_neg h]
    exact this
end Go.Proofs.YthafnphpcdbnlaaGreat.S10
namespace Go.Proofs.YthafnphpcdbnlaaGreat.S10
open Go.Proofs.YthafnphpcdbnlaaGreat
open Go.RowKit

/-- The hash of an address in a table of b bits. -/
def hsh (a b : Nat) : Nat := a * 11400714819323198485 % 18446744073709551616 / 2 ^ (64 - b)
theorem hsh_lt (a b : Nat) (h : b ≤ 64) : hsh a b < 2 ^ b := by
  unfold hsh
  have e : 2 ^ 64 = 2 ^ (64 - b) * 2 ^ b := by rw [← Nat.pow_add]; congr 1; omega
  apply Nat.div_lt_of_lt_mul
  rw [← e]
  exact Nat.mod_lt _ (by omega)
theorem hsh_half (a b : Nat) (h : b < 64) : hsh a (b + 1) / 2 = hsh a b := by
  unfold hsh
  rw [Nat.div_div_eq_div_mul, ← Nat.pow_succ]
  congr 2
  omega
theorem wrap_hash (a P : Nat) (hp : 2 ≤ P) : wrap64 (IntKind.u64.wrap ((a : Int) * 11400714819323198485) / (P : Int)) = ((a * 11400714819323198485 % 18446744073709551616 / P : Nat) : Int) := by
  have e : IntKind.u64.wrap ((a : Int) * 11400714819323198485) = ((a * 11400714819323198485 % 18446744073709551616 : Nat) : Int) := by
    rw [IntKind.wrap_u64]; omega
  rw [e]
  have hm := Nat.mod_lt (a * 11400714819323198485) (by omega : 0 < 18446744073709551616)
  generalize a * 11400714819323198485 % 18446744073709551616 = m at *
  have hq : m / P < 9223372036854775808 := by
    apply Nat.div_lt_of_lt_mul
    calc m < 18446744073709551616 := hm
      _ = 2 * 9223372036854775808 := by omega
      _ ≤ P * 9223372036854775808 := Nat.mul_le_mul_right _ hp
  rw [← Int.natCast_ediv]
  generalize m / P = x at *
  unfold wrap64
  omega
def hashZ (a : Nat) (b : Int) : Int := if 2 ≤ b ∧ b ≤ 8 then (hsh a b.toNat : Nat) else -1
theorem size_le (b : Int) : sizeN b ≤ 256 := by
  unfold sizeN
  split
  · rename_i h
    calc 2 ^ b.toNat ≤ 2 ^ 8 := Nat.pow_le_pow_right (by omega) (by omega)
      _ = 256 := rfl
  · omega
end Go.Proofs.YthafnphpcdbnlaaGreat.S10
namespace Go.Proofs.YthafnphpcdbnlaaGreat.S10
open Go.Proofs.YthafnphpcdbnlaaGreat
open Go.RowKit

/-- Of the blocks that were there only those in S may have turned. -/
structure Turns (S : Nat → Prop) (w w' : World) : Prop where
  os : w'.os = w.os
  tape : w'.tape = w.tape
  output : w'.output = w.output
  size : w.heap.size ≤ w'.heap.size
  block : ∀ k, k < w.heap.size → ¬ S k → w'.heap[k]? = w.heap[k]?
theorem Turns.refl (S : Nat → Prop) (w : World) : Turns S w w := ⟨rfl, rfl, rfl, Nat.le_refl _, fun _ _ _ => rfl⟩
theorem Turns.trans {S T : Nat → Prop} {a b c : World} (h : Turns S a b) (g : Turns T b c) (hs : ∀ k, k < a.heap.size → T k → S k) : Turns S a c :=
  ⟨g.os.trans h.os, g.tape.trans h.tape, g.output.trans h.output, Nat.le_trans h.size g.size, fun k hk hn => (g.block k (Nat.lt_of_lt_of_le hk h.size) (fun ht => hn (hs k hk ht))).trans (h.block k hk hn)⟩
theorem Turns.mono {S T : Nat → Prop} {a b : World} (h : Turns S a b) (hs : ∀ k, k < a.heap.size → S k → T k) : Turns T a b :=
  (Turns.refl T a).trans h hs
theorem Turns.of_below {S : Nat → Prop} {a b : World} (h : Below a.heap.size a b) : Turns S a b :=
  ⟨h.os, h.tape, h.output, h.size, fun k hk _ => h.block k hk⟩
theorem Turns.below {S : Nat → Prop} {a b : World} {B : Nat} (h : Turns S a b) (hB : B ≤ a.heap.size) (hs : ∀ k, k < B → ¬ S k) : Below B a b :=
  ⟨h.os, h.tape, h.output, h.size, fun k hk => h.block k (by omega) (hs k hk)⟩
theorem Turns.alloc {S : Nat → Prop} {a b : World} (h : Turns S a b) (o : Obj) : Turns S a (b.alloc o) :=
  h.trans (T := fun _ => False) ⟨rfl, rfl, rfl, by simp, fun k hk _ => Below.heap_alloc _ _ _ hk⟩ (fun _ _ h => h.elim)
theorem Turns.drew {S : Nat → Prop} {a b : World} (h : Turns S a b) : Turns S a b.drew :=
  ⟨h.os, h.tape, h.output, h.size, h.block⟩
theorem Turns.setCell {S : Nat → Prop} {a b : World} (h : Turns S a b) (p : Addr) (u : Value) (hp : S p.block) : Turns S a (b.setCell p u) :=
  h.trans (T := fun k => k = p.block) ⟨rfl, rfl, rfl, by simp [World.setCell], fun k _ hn => Below.heap_setCell _ _ _ _ hn⟩ (fun k _ e => e ▸ hp)
theorem Turns.setCells {S : Nat → Prop} {a b : World} (h : Turns S a b) (g : Nat) (hg : S g) : ∀ (vs : List Value) (o : Nat), Turns S a (b.setCells g o vs)
  | [], _ => h
  | v :: r, o => by
    have h1 := h.setCell ⟨g, o, none⟩ v hg
    exact Turns.setCells h1 g hg r (o + 1)
theorem Turns.cell {S : Nat → Prop} {a b : World} (h : Turns S a b) {g o : Nat} (hg : g < a.heap.size) (hn : ¬ S g) : b.cell? ⟨g, o, none⟩ = a.cell? ⟨g, o, none⟩ :=
  World.cell?_of_block (a := ⟨g, o, none⟩) (h.block g hg hn)
theorem Turns.frozen {S : Nat → Prop} {a b : World} (h : Turns S a b) {g o : Nat} (hg : g < a.heap.size) (hn : ¬ S g) : b.frozen? ⟨g, o, none⟩ = a.frozen? ⟨g, o, none⟩ :=
  World.frozen?_of_block (a := ⟨g, o, none⟩) (h.block g hg hn)

theorem cell_row {w : World} {B : Nat} {cs : Array Value} {T : TypeId} (h : w.heap[B]? = some (.cells cs T (0, 0))) (o : Nat) : w.cell? ⟨B, o, none⟩ = cs[o]? := by
  simp [World.cell?, h]
theorem froz_row {w : World} {B : Nat} {cs : Array Value} {T : TypeId} (h : w.heap[B]? = some (.cells cs T (0, 0))) (o : Nat) : w.frozen? ⟨B, o, none⟩ = false := by
  simp [World.frozen?, h]
theorem row_set {w : World} {B : Nat} {cs : Array Value} {T : TypeId} (h : w.heap[B]? = some (.cells cs T (0, 0))) (o : Nat) (v : Value) : (w.setCell ⟨B, o, none⟩ v).heap[B]? = some (.cells (cs.setIfInBounds o v) T (0, 0)) := by
  simp [World.setCell, Array.getElem?_modify, h]


/-- How elements of a slice's type lie: the element's type, its cells, its bytes, its zero. -/
structure Lay (S E sz bt : Nat) (z : Value) : Prop where
  und : Tryz.prog.underlying S = some (.slice E)
  info : ∃ i, Tryz.prog.info? E = some i ∧ i.zero = some z ∧ i.size = sz ∧ i.bytes = bt
  zc : z.cells.size = sz
  pos : 0 < sz
  few : bt ≤ 1000

/-- Cells that stand from an address on. -/
def Lies (w : World) (g o : Nat) (cs : List Value) : Prop := ∀ j u, cs[j]? = some u → w.cell? ⟨g, o + j, none⟩ = some u
/-- A list that is read: its memory lies below a base. -/
def Rd (w : World) (base : Nat) (A : Option Addr) (cs : List Value) : Prop := 0 < cs.length → ∃ g o, A = some ⟨g, o, none⟩ ∧ g < base ∧ Lies w g o cs
/-- A list of a call's own: its memory lies from base on, and may be written. -/
def Row (w : World) (base sz : Nat) (s : Value) (n : Nat) (cs : List Value) : Prop :=
  ∃ A cap, s = .slice A n cap ∧ cs.length = n * sz ∧ n ≤ cap ∧ cap ≤ maxLen ∧ (A = none → cap = 0) ∧
    ∀ ad, A = some ad → ∃ g o, ad = ⟨g, o, none⟩ ∧ base ≤ g ∧ g < w.heap.size ∧ Lies w g o cs ∧ ∀ j, j < cap * sz → (w.cell? ⟨g, o + j, none⟩).isSome = true ∧ w.frozen? ⟨g, o + j, none⟩ = false

theorem Lies.of {w w' : World} {g o : Nat} {cs : List Value} (h : Lies w g o cs) (e : ∀ j, w'.cell? ⟨g, o + j, none⟩ = w.cell? ⟨g, o + j, none⟩) : Lies w' g o cs := fun j u hj => (e j).trans (h j u hj)
theorem Rd.below {w w' : World} {base b : Nat} {A : Option Addr} {cs : List Value} (h : Rd w base A cs) (hb : Below b w w') (hbb : base ≤ b) : Rd w' base A cs := fun hp => by
  obtain ⟨g, o, e, hg, hl⟩ := h hp
  exact ⟨g, o, e, hg, hl.of fun j => hb.cell (p := ⟨g, o + j, none⟩) (by show g < b; omega)⟩
theorem Rd.more {w : World} {base b : Nat} {A : Option Addr} {cs : List Value} (h : Rd w base A cs) (hb : base ≤ b) : Rd w b A cs := fun hp => by
  obtain ⟨g, o, e, hg, hl⟩ := h hp
  exact ⟨g, o, e, by omega, hl⟩
theorem Rd.kept {S : Nat → Prop} {w w' : World} {base : Nat} {A : Option Addr} {cs : List Value} (h : Rd w base A cs) (t : Turns S w w') (hb : base ≤ w.heap.size) (hs : ∀ k, k < base → ¬ S k) : Rd w' base A cs := fun hp => by
  obtain ⟨g, o, e, hg, hl⟩ := h hp
  exact ⟨g, o, e, hg, hl.of fun j => t.cell (by omega) (hs g hg)⟩
theorem Rd.nil {w : World} {base : Nat} {A : Option Addr} : Rd w base A [] := fun h => by simp at h
theorem Rd.drew {w : World} {base : Nat} {A : Option Addr} {cs : List Value} (h : Rd w base A cs) : Rd w.drew base A cs := h
theorem Row.drew {w : World} {base sz n : Nat} {s : Value} {cs : List Value} (h : Row w base sz s n cs) : Row w.drew base sz s n cs := h
theorem row_nil (w : World) (base sz : Nat) : Row w base sz (.slice none 0 0) 0 [] :=
  ⟨none, 0, rfl, by simp, Nat.le_refl _, Nat.zero_le _, fun _ => rfl, fun _ e => by cases e⟩
theorem Row.keep {S : Nat → Prop} {w w' : World} {base sz n : Nat} {s : Value} {cs : List Value} (h : Row w base sz s n cs) (t : Turns S w w') (hs : ∀ g, s.ownBlock = some g → ¬ S g) : Row w' base sz s n cs := by
  obtain ⟨A, cap, rfl, h0, h1, h2, h3, h4⟩ := h
  refine ⟨A, cap, rfl, h0, h1, h2, h3, fun ad e => ?_⟩
  obtain ⟨g, o, rfl, hb, hg, hl, hc⟩ := h4 ad e
  have hn := hs g (by rw [e]; rfl)
  exact ⟨g, o, rfl, hb, Nat.lt_of_lt_of_le hg t.size, hl.of fun j => t.cell hg hn, fun j hj => ⟨by rw [t.cell hg hn]; exact (hc j hj).1, (t.frozen hg hn).trans (hc j hj).2⟩⟩
theorem Row.lt {w : World} {base sz n : Nat} {s : Value} {cs : List Value} (h : Row w base sz s n cs) : ∀ g, s.ownBlock = some g → base ≤ g ∧ g < w.heap.size := by
  obtain ⟨A, cap, rfl, h0, h1, h2, h3, h4⟩ := h
  intro g hg
  cases A with
  | none => simp [Value.ownBlock] at hg
  | some ad =>
    obtain ⟨g', o, rfl, hb, hlt, _⟩ := h4 ad rfl
    have : g' = g := by simpa [Value.ownBlock] using hg
    subst this
    exact ⟨hb, hlt⟩
theorem Row.new {w w' : World} {base sz n : Nat} {s : Value} {cs : List Value} (h : Row w base sz s n cs) (hb : Below w.heap.size w w') : Row w' base sz s n cs :=
  h.keep (Turns.of_below (S := fun _ => False) hb) (fun _ _ e => e)
theorem Row.base {w : World} {base b sz n : Nat} {s : Value} {cs : List Value} (h : Row w base sz s n cs) (hb : b ≤ base) : Row w b sz s n cs := by
  obtain ⟨A, cap, rfl, h0, h1, h2, h3, h4⟩ := h
  refine ⟨A, cap, rfl, h0, h1, h2, h3, fun ad e => ?_⟩
  obtain ⟨g, o, rfl, hb', hg, hl, hc⟩ := h4 ad e
  exact ⟨g, o, rfl, by omega, hg, hl, hc⟩
theorem Row.len {w : World} {base sz n : Nat} {s : Value} {cs : List Value} (h : Row w base sz s n cs) : cs.length = n * sz := let ⟨_, _, _, h0, _⟩ := h; h0
theorem Row.shape {w : World} {base sz n : Nat} {s : Value} {cs : List Value} (h : Row w base sz s n cs) : ∃ A cap, s = .slice A n cap ∧ n ≤ cap ∧ cap ≤ 9223372036854775807 := let ⟨A, cap, e, _, h1, h2, _⟩ := h; ⟨A, cap, e, h1, by unfold maxLen at h2; omega⟩
theorem Row.rd {w : World} {base sz n cap : Nat} {A : Option Addr} {cs : List Value} (h : Row w base sz (.slice A n cap) n cs) : Rd w w.heap.size A cs := fun hp => by
  obtain ⟨A', cap', e, h0, h1, h2, h3, h4⟩ := h
  cases e
  cases A with
  | none =>
    have := h3 rfl
    have : n = 0 := by omega
    subst this
    simp at h0
    simp [h0] at hp
  | some ad =>
    obtain ⟨g, o, rfl, hb, hlt, hl, _⟩ := h4 ad rfl
    exact ⟨g, o, rfl, hlt, hl⟩
/-- No room behind: the same list. -/
theorem Row.clip {w : World} {base sz n cap : Nat} {A : Option Addr} {cs : List Value} (h : Row w base sz (.slice A n cap) n cs) : Row w base sz (.slice A n n) n cs := by
  obtain ⟨A', cap', e, h0, h1, h2, h3, h4⟩ := h
  cases e
  refine ⟨A, n, rfl, h0, Nat.le_refl _, by omega, fun e => by have := h3 e; omega, fun ad e => ?_⟩
  obtain ⟨g, o, rfl, hb, hlt, hl, hc⟩ := h4 ad e
  exact ⟨g, o, rfl, hb, hlt, hl, fun j hj => hc j (Nat.lt_of_lt_of_le hj (Nat.mul_le_mul_right _ h1))⟩
theorem add_none (b o n : Nat) : (⟨b, o, none⟩ : Addr).add n = ⟨b, o + n, none⟩ := by unfold Addr.add; split <;> simp_all
theorem Rd.src {S E sz bt : Nat} {z : Value} (L : Lay S E sz bt z) {w : World} {base : Nat} {A : Option Addr} {es : List Value} (h : Rd w base A es) {m : Nat} (hl : es.length = m * sz) (h1 : ∀ u ∈ es, u.oneCell' = true) (c : Nat) : Src Tryz.prog sz S (.slice A m c) m es w := by
  by_cases hm : m = 0
  · subst hm
    obtain rfl : es = [] := List.eq_nil_of_length_eq_zero (by simpa using hl)
    cases A with
    | none => exact Src.ofNil w L.und c
    | some ad => exact Src.ofSlice w L.und ad 0 c [] (by simp) (fun j u e => by simp at e) (fun u hu => by cases hu)
  · have hp : 0 < es.length := by rw [hl]; exact Nat.mul_pos (by omega) L.pos
    obtain ⟨g, o, rfl, _, hc⟩ := h hp
    refine Src.ofSlice w L.und _ m c _ hl (fun j u e => ?_) h1
    rw [add_none]
    exact hc j u e
theorem Lies.app {w : World} {g o : Nat} {cs es : List Value} (h : Lies w g o cs) (h2 : Lies w g (o + cs.length) es) : Lies w g o (cs ++ es) := fun j u e => by
  by_cases hj : j < cs.length
  · rw [List.getElem?_append_left hj] at e
    exact h j u e
  · rw [List.getElem?_append_right (by omega)] at e
    have := h2 _ u e
    rwa [show o + cs.length + (j - cs.length) = o + j by omega] at this
theorem some_setCells (b : Nat) : ∀ (vs : List Value) (o : Nat) (w : World) (x : Addr), (w.cell? x).isSome = true → ((w.setCells b o vs).cell? x).isSome = true
  | [], _, _, _, h => h
  | v :: r, o, w, x, h => by
    refine some_setCells b r (o + 1) _ x ?_
    by_cases e : (⟨b, o, none⟩ : Addr) = x
    · subst e
      obtain ⟨u, hu⟩ := Option.isSome_iff_exists.1 h
      rw [World.cell?_setCell_same _ _ _ hu]; rfl
    · rw [World.cell?_setCell_other _ _ _ _ (fun e' => e (by rw [e']))]; exact h
theorem size_setCells' (b : Nat) : ∀ (vs : List Value) (o : Nat) (w : World), (w.setCells b o vs).heap.size = w.heap.size
  | [], _, _ => rfl
  | v :: r, o, w => by rw [World.setCells, size_setCells' b r]; simp [World.setCell]
/-- More behind: in the list's own memory, or in new memory. -/
theorem row_append {S E sz bt : Nat} {z : Value} (L : Lay S E sz bt z) {w : World} {base n : Nat} {s : Value} {cs : List Value} (h : Row w base sz s n cs) (h1c : ∀ u ∈ cs, u.oneCell' = true) (hbase : base ≤ w.heap.size) {b2 : Nat} {A : Option Addr} {m : Nat} {es : List Value} (c : Nat) (hr : Rd w b2 A es) (hm : es.length = m * sz) (h1e : ∀ u ∈ es, u.oneCell' = true) (hlen : n + m ≤ 1000000) (ty : TypeId) :
    ∃ s' w', (Builtin.append_ #[S, S] ty #[s, .slice A m c]).run Tryz.prog w = .ok s' w' ∧ Row w' base sz s' (n + m) (cs ++ es) ∧ Turns (fun k => s.ownBlock = some k) w w' ∧ (s'.ownBlock = s.ownBlock ∨ s'.ownBlock = some w.heap.size) := by
  obtain ⟨i, hi, hz, hsz, hby⟩ := L.info
  have hf := L.few
  have hsrow := h
  obtain ⟨B, cap, rfl, h0, h1, h2, h3, h4⟩ := h
  have hs := hr.src L hm h1e c
  rw [← hsz] at hs
  have hlen2 : (cs ++ es).length = (n + m) * sz := by rw [List.length_append, h0, hm, Nat.add_mul]
  by_cases hE : m = 0
  · subst hE
    obtain rfl : es = [] := List.eq_nil_of_length_eq_zero (by simpa using hm)
    refine ⟨_, w, run_append_nothing w S S ty E i L.und hi B n cap h1 _ hs, ?_, Turns.refl _ _, .inl rfl⟩
    rw [List.append_nil]
    exact hsrow
  · have hmax : n + m ≤ maxLen := by unfold maxLen; omega
    by_cases hroom : n + m ≤ cap
    · cases B with
      | none => have := h3 rfl; omega
      | some ad =>
        obtain ⟨g, o, rfl, hb, hlt, hl, hc⟩ := h4 ad rfl
        have hin : ∀ j, j < es.length → n * sz + j < cap * sz := fun j hj => by
          have : (n + m) * sz ≤ cap * sz := Nat.mul_le_mul_right _ hroom
          rw [Nat.add_mul] at this
          omega
        have hrun := run_append_room_src (P := Tryz.prog) w S S ty E i L.und hi g o n cap _ m es hs hroom
          (fun j hj => by rw [hsz, Nat.add_assoc]; exact (hc _ (hin j hj)).1) (fun j hj => by rw [hsz, Nat.add_assoc]; exact (hc _ (hin j hj)).2)
        rw [hsz] at hrun
        refine ⟨_, _, hrun, ?_, Turns.setCells (S := fun k => (Value.slice (some ⟨g, o, none⟩) n cap).ownBlock = some k) (Turns.refl _ w) g rfl _ _, .inl rfl⟩
        refine ⟨some ⟨g, o, none⟩, cap, rfl, hlen2, hroom, h2, (fun e => by cases e), fun ad e => ?_⟩
        cases e
        refine ⟨g, o, rfl, hb, by rw [size_setCells']; exact hlt, ?_, fun j hj => ⟨some_setCells _ _ _ _ _ (hc j hj).1, by rw [World.frozen?_setCells]; exact (hc j hj).2⟩⟩
        refine Lies.app (fun j u e => ?_) (fun j u e => ?_)
        · have hj : j < cs.length := (List.getElem?_eq_some_iff.1 e).1
          rw [World.cell?_setCells_out _ _ _ _ _ (fun _ _ => .inl (by show o + j < _; omega))]
          exact hl j u e
        · have hj : j < es.length := (List.getElem?_eq_some_iff.1 e).1
          have hin2 := World.cell?_setCells_in g es (o + n * sz) w (fun j hj => by rw [Nat.add_assoc]; exact (hc _ (hin j hj)).1) j hj
          rw [h0, hin2]
          exact (List.getElem?_eq_getElem hj).symm.trans e
    · have hold : (Builtin.firstCells i.size n (.slice B n cap)).run Tryz.prog w.drew = .ok cs.toArray w.drew := by
        have hr2 : Rd w.drew w.heap.size B cs := Row.rd (w := w.drew) (base := base) (cap := cap) hsrow
        have := (hr2.src L h0 h1c cap).cells
        rwa [hsz]
      have hge := grownCap_ge w (n + m) cap E
      have hcm := grownCap_le_maxLen w (n + m) cap E hmax
      have hbig : (n + m) * bt ≤ 140737488355328 := by
        have := Nat.mul_le_mul hlen hf
        omega
      have hrun := run_append_grow_src (P := Tryz.prog) w S S ty E i z L.und hi hz B n cap cs hold _ m es hs (by omega) (by omega) (growslice_fits (by omega) (by rw [hby]; exact hbig))
      have hnew := heap_alloc_new w.drew (.cells ((cs ++ es).toArray ++ Builtin.zeroCells z.cells (grownCap w (n + m) cap E - (n + m))) E)
      rw [show w.drew.heap.size = w.heap.size from rfl] at hnew
      refine ⟨_, _, hrun, ?_, ((Turns.refl _ w).drew).alloc _, .inr rfl⟩
      generalize grownCap w (n + m) cap E = cc at *
      have hzs : (Builtin.zeroCells z.cells (cc - (n + m))).size = (cc - (n + m)) * sz := by rw [size_zeroCells, L.zc]
      refine ⟨_, cc, rfl, hlen2, hge, hcm, (fun e => by cases e), fun ad e => ?_⟩
      cases e
      refine ⟨w.heap.size, 0, rfl, hbase, by simp, fun j u e => ?_, fun j hj => ⟨?_, froz_row hnew _⟩⟩
      · have hj : j < (cs ++ es).length := (List.getElem?_eq_some_iff.1 e).1
        rw [cell_row hnew, Nat.zero_add]
        rw [Array.getElem?_append_left (by simpa using hj)]
        simpa using e
      · rw [cell_row hnew, Nat.zero_add]
        have : j < ((cs ++ es).toArray ++ Builtin.zeroCells z.cells (cc - (n + m))).size := by
          rw [Array.size_append, hzs, List.size_toArray, hlen2, ← Nat.add_mul, show n + m + (cc - (n + m)) = cc by omega]
          exact hj
        rw [Array.getElem?_eq_getElem this]; rfl
end Go.Proofs.YthafnphpcdbnlaaGreat.S10
namespace Go.Proofs.YthafnphpcdbnlaaGreat.S10
open Go.Proofs.YthafnphpcdbnlaaGreat
open Go.RowKit

section
variable {w : World} {S E sz bt : Nat} {z : Value}
theorem wp_append_row (L : Lay S E sz bt z) {o : Oper} {a : Act} {K : Act → World → Prop} {Q : Exit → Act → World → Prop} (s x : Operand)
    (ho : o.op = .call { callee := .builtin .append, args := #[s, x], argTypes := #[S, S] }) {base n : Nat} {v : Value} {cs : List Value} (hs : a.eval s = v) (h : Row w base sz v n cs) (h1c : ∀ u ∈ cs, u.oneCell' = true) (hbase : base ≤ w.heap.size)
    {b2 : Nat} {A : Option Addr} {m : Nat} {es : List Value} (c : Nat) (hx : a.eval x = .slice A m c) (hr : Rd w b2 A es) (hm : es.length = m * sz) (h1e : ∀ u ∈ es, u.oneCell' = true) (hlen : n + m ≤ 1000000)
    (hK : ∀ v' w', Row w' base sz v' (n + m) (cs ++ es) → Turns (fun k => v.ownBlock = some k) w w' → (v'.ownBlock = v.ownBlock ∨ v'.ownBlock = some w.heap.size) → K (a.put o.dst v') w') : o.wp Tryz.prog a w K Q := by
  obtain ⟨v', w', hrun, h2, h3, h4⟩ := row_append L h h1c hbase c hr hm h1e hlen o.type
  unfold Oper.wp execOp
  simp only [ho, resolve, invoke, builtin, Sem.run_bind, Sem.run_pure, Result.andThen_ok, List.map_toArray, List.map_cons, List.map_nil, hs, hx, hrun]
  exact hK v' w' h2 h3 h4
theorem wpList_append_row (L : Lay S E sz bt z) {ops : Array Oper} {rest : List Oper} {o : Oper} {a : Act} {Q : Exit → Act → World → Prop} (hgd : o.guard = none) (s x : Operand)
    (ho : o.op = .call { callee := .builtin .append, args := #[s, x], argTypes := #[S, S] }) {base n : Nat} {v : Value} {cs : List Value} (hs : a.eval s = v) (h : Row w base sz v n cs) (h1c : ∀ u ∈ cs, u.oneCell' = true) (hbase : base ≤ w.heap.size)
    {b2 : Nat} {A : Option Addr} {m : Nat} {es : List Value} (c : Nat) (hx : a.eval x = .slice A m c) (hr : Rd w b2 A es) (hm : es.length = m * sz) (h1e : ∀ u ∈ es, u.oneCell' = true) (hlen : n + m ≤ 1000000)
    (hK : ∀ v' w', Row w' base sz v' (n + m) (cs ++ es) → Turns (fun k => v.ownBlock = some k) w w' → (v'.ownBlock = v.ownBlock ∨ v'.ownBlock = some w.heap.size) → wpList Tryz.prog ops Q rest (a.put o.dst v') w') : wpList Tryz.prog ops Q (o :: rest) a w :=
  wpList_plain hgd fun _ hK' => wp_append_row L s x ho hs h h1c hbase c hx hr hm h1e hlen fun v' w' h2 h3 h4 => hK' _ _ (hK v' w' h2 h3 h4)
theorem step_append_row (L : Lay S E sz bt z) {ops : Array Oper} {o : Oper} {a : Act} {K : Act → World → Prop} {Q : Exit → Act → World → Prop} {F : Prop} (hgd : o.guard = none) (s x : Operand)
    (ho : o.op = .call { callee := .builtin .append, args := #[s, x], argTypes := #[S, S] }) {base n : Nat} {v : Value} {cs : List Value} (hs : a.eval s = v) (h : Row w base sz v n cs) (h1c : ∀ u ∈ cs, u.oneCell' = true) (hbase : base ≤ w.heap.size)
    {b2 : Nat} {A : Option Addr} {m : Nat} {es : List Value} (c : Nat) (hx : a.eval x = .slice A m c) (hr : Rd w b2 A es) (hm : es.length = m * sz) (h1e : ∀ u ∈ es, u.oneCell' = true) (hlen : n + m ≤ 1000000)
    (hK : ∀ v' w', Row w' base sz v' (n + m) (cs ++ es) → Turns (fun k => v.ownBlock = some k) w w' → (v'.ownBlock = v.ownBlock ∨ v'.ownBlock = some w.heap.size) → K (a.put o.dst v') w') :
    if Region.wanted o (yielded ops a.tmps) = true then Oper.wp Tryz.prog o a w K Q else F := by
  have hw : Region.wanted o (yielded ops a.tmps) = true := by simp [Region.wanted, hgd]
  rw [if_pos hw]
  exact wp_append_row L s x ho hs h h1c hbase c hx hr hm h1e hlen hK
end
theorem info_of {E sz bt : Nat} {z : Value} (h : (Tryz.prog.info? E).map (fun i => (i.zero, i.size, i.bytes)) = some (some z, sz, bt)) : ∃ i, Tryz.prog.info? E = some i ∧ i.zero = some z ∧ i.size = sz ∧ i.bytes = bt := by
  cases e : Tryz.prog.info? E with
  | none => rw [e] at h; cases h
  | some i =>
    rw [e] at h
    simp at h
    exact ⟨i, rfl, h.1, h.2.1, h.2.2⟩
theorem layE : Lay 173 222 3 24 (.agg #[.int .i64 0, .int .u32 0, .int .u64 0]) := ⟨Tryz.underlying173, info_of (by kernel_rfl), rfl, by decide, by decide⟩
theorem layQ : Lay 148 173 1 24 (.slice none 0 0) := ⟨Tryz.underlying148, info_of (by kernel_rfl), rfl, by decide, by decide⟩

/-- An entry: its thread, its key, its token. -/
structure Ent where
  t : Int
  k : Int
  z : Int
deriving DecidableEq
instance : Inhabited Ent := ⟨⟨0, 0, 0⟩⟩
def Ent.cs (e : Ent) : List Value := [.int .i64 e.t, .int .u32 e.k, .int .u64 e.z]
abbrev ag (e : Ent) : Value := .agg #[.int .i64 e.t, .int .u32 e.k, .int .u64 e.z]
def flat (D : List Ent) : List Value := D.flatMap Ent.cs
theorem flat_nil : flat [] = [] := rfl
theorem flat_one (e : Ent) : flat [e] = [.int .i64 e.t, .int .u32 e.k, .int .u64 e.z] := rfl
theorem flat_app (D F : List Ent) : flat (D ++ F) = flat D ++ flat F := by simp [flat]
theorem flat_len (D : List Ent) : (flat D).length = D.length * 3 := by
  induction D with
  | nil => rfl
  | cons e r ih =>
    have : flat (e :: r) = e.cs ++ flat r := rfl
    rw [this, List.length_append, ih]
    simp [Ent.cs]
    omega
theorem flat_one' (D : List Ent) : ∀ u ∈ flat D, u.oneCell' = true := fun u hu => by
  simp only [flat, List.mem_flatMap] at hu
  obtain ⟨e, _, hu⟩ := hu
  simp [Ent.cs] at hu
  rcases hu with rfl | rfl | rfl <;> rfl
theorem flat_get : ∀ (D : List Ent) (i : Nat), i < D.length → (flat D)[i * 3]? = some (.int .i64 D[i]!.t) ∧ (flat D)[i * 3 + 1]? = some (.int .u32 D[i]!.k) ∧ (flat D)[i * 3 + 2]? = some (.int .u64 D[i]!.z)
  | [], i, h => by simp at h
  | e :: r, 0, _ => ⟨rfl, rfl, rfl⟩
  | e :: r, i + 1, h => by
    have hr := flat_get r i (by simpa using h)
    have e3 : flat (e :: r) = .int .i64 e.t :: .int .u32 e.k :: .int .u64 e.z :: flat r := rfl
    have e4 : (e :: r)[i + 1]! = r[i]! := by simp
    rw [e3, e4, show (i + 1) * 3 = i * 3 + 3 by omega, show i * 3 + 3 + 1 = i * 3 + 1 + 3 by omega, show i * 3 + 3 + 2 = i * 3 + 2 + 3 by omega]
    exact hr
/-- An entry's three cells. -/
theorem Lies.ent {w : World} {g o : Nat} {D : List Ent} (h : Lies w g o (flat D)) {i : Nat} (hi : i < D.length) :
    w.cell? ⟨g, o + i * 3, none⟩ = some (.int .i64 D[i]!.t) ∧ w.cell? ⟨g, o + i * 3 + 1, none⟩ = some (.int .u32 D[i]!.k) ∧ w.cell? ⟨g, o + i * 3 + 2, none⟩ = some (.int .u64 D[i]!.z) := by
  obtain ⟨h0, h1, h2⟩ := flat_get D i hi
  exact ⟨h _ _ h0, by have := h _ _ h1; rwa [← Nat.add_assoc] at this, by have := h _ _ h2; rwa [← Nat.add_assoc] at this⟩
theorem Rd.ent {w : World} {base : Nat} {A : Option Addr} {D : List Ent} (h : Rd w base A (flat D)) {i : Nat} (hi : i < D.length) : ∃ g o, A = some ⟨g, o, none⟩ ∧ g < base ∧
    w.cell? ⟨g, o + i * 3, none⟩ = some (.int .i64 D[i]!.t) ∧ w.cell? ⟨g, o + i * 3 + 1, none⟩ = some (.int .u32 D[i]!.k) ∧ w.cell? ⟨g, o + i * 3 + 2, none⟩ = some (.int .u64 D[i]!.z) := by
  obtain ⟨g, o, e, hg, hl⟩ := h (by rw [flat_len]; omega)
  obtain ⟨h0, h1, h2⟩ := hl.ent hi
  exact ⟨g, o, e, hg, h0, h1, h2⟩
/-- A list that is read, whose cells are known to stand where they do. -/
theorem Rd.more_ent {w : World} {base : Nat} {A : Option Addr} {D : List Ent} (h : Rd w base A (flat D)) (hp : 0 < D.length) : ∃ g o, A = some ⟨g, o, none⟩ ∧ g < base ∧ Lies w g o (flat D) := h (by rw [flat_len]; omega)
theorem eqlE (d e : Ent) (w : World) : (binOp .eql 222 (ag d) (ag e)).run Tryz.prog w = .ok (.bool (decide (d = e))) w := by
  obtain ⟨t, k, z⟩ := d; obtain ⟨t', k', z'⟩ := e
  simp [go_sem, Tryz.underlying222]
  by_cases h1 : t = t' <;> by_cases h2 : k = k' <;> by_cases h3 : z = z' <;> simp [h1, h2, h3]
theorem neqE (d e : Ent) (w : World) : (binOp .neq 222 (ag d) (ag e)).run Tryz.prog w = .ok (.bool (!decide (d = e))) w := by
  obtain ⟨t, k, z⟩ := d; obtain ⟨t', k', z'⟩ := e
  simp [go_sem, Tryz.underlying222]
  by_cases h1 : t = t' <;> by_cases h2 : k = k' <;> by_cases h3 : z = z' <;> simp [h1, h2, h3]
end Go.Proofs.YthafnphpcdbnlaaGreat.S10
namespace Go.Proofs.YthafnphpcdbnlaaGreat.S10
open Go.Proofs.YthafnphpcdbnlaaGreat
open Go.RowKit

theorem below1 (w : World) (o : Obj) : Below w.heap.size w (w.alloc o) := (Below.refl _ w).alloc (Nat.le_refl _) o
theorem Row.alloc {w : World} {base sz n : Nat} {s : Value} {cs : List Value} (h : Row w base sz s n cs) (o : Obj) : Row (w.alloc o) base sz s n cs := h.new (below1 w o)
/-- One entry, in new memory. -/
theorem rd_one (w : World) (d : Ent) (T : TypeId) : Rd (w.alloc (.cells #[.int .i64 d.t, .int .u32 d.k, .int .u64 d.z] T)) (w.heap.size + 1) (some ⟨w.heap.size, 0, none⟩) (flat [d]) := fun _ => by
  refine ⟨w.heap.size, 0, rfl, by omega, fun j u e => ?_⟩
  have hnew := heap_alloc_new w (.cells #[.int .i64 d.t, .int .u32 d.k, .int .u64 d.z] T)
  rw [cell_row hnew, Nat.zero_add]
  simpa [flat_one] using e
/-- One cell, in new memory. -/
theorem rd_one1 (w : World) (v : Value) (T : TypeId) : Rd (w.alloc (.cells #[v] T)) (w.heap.size + 1) (some ⟨w.heap.size, 0, none⟩) [v] := fun _ => by
  refine ⟨w.heap.size, 0, rfl, by omega, fun j u e => ?_⟩
  have hnew := heap_alloc_new w (.cells #[v] T)
  rw [cell_row hnew, Nat.zero_add]
  simpa using e
theorem take_snoc {α : Type} [Inhabited α] {D : List α} {k : Nat} (h : k < D.length) : D.take (k + 1) = D.take k ++ [D[k]!] := by
  rw [List.take_add_one, List.getElem?_eq_getElem h, getElem!_pos D k h]; rfl
theorem flat_snoc {D : List Ent} {k : Nat} (h : k < D.length) : flat (D.take (k + 1)) = flat (D.take k) ++ flat [D[k]!] := by rw [take_snoc h, flat_app]
/-- A list of entries of a call's own. -/
abbrev RowE (w : World) (base : Nat) (s : Value) (D : List Ent) : Prop := Row w base 3 s D.length (flat D)
/-- Cells that may be written. -/
def Wr (w : World) (g o m : Nat) : Prop := ∀ j, j < m → ∃ v, w.cell? ⟨g, o + j, none⟩ = some v ∧ w.frozen? ⟨g, o + j, none⟩ = false
theorem Wr.set {w : World} {g o m : Nat} (h : Wr w g o m) (x : Nat) (v : Value) : Wr (w.setCell ⟨g, x, none⟩ v) g o m := by
  intro j hj
  obtain ⟨u, hu, hf⟩ := h j hj
  by_cases e : o + j = x
  · subst e
    exact ⟨v, World.cell?_setCell_same _ _ _ hu, (World.frozen?_setCell _ _ _ _).trans hf⟩
  · exact ⟨u, (World.cell?_setCell_other _ _ _ _ (by simp; (try omega))).trans hu, (World.frozen?_setCell _ _ _ _).trans hf⟩
end Go.Proofs.YthafnphpcdbnlaaGreat.S10
namespace Go.Proofs.YthafnphpcdbnlaaGreat.S10
open Go.Proofs.YthafnphpcdbnlaaGreat

/-- The entries that hash to a bucket, as they stand. -/
def bk (h : Nat → Nat) (i : Nat) (E : List Ent) : List Ent := E.filter fun e => h e.k.toNat == i
/-- Rehashed. -/
def reh (h : Nat → Nat) (n : Nat) (E : List Ent) : List (List Ent) := (List.range n).map fun i => bk h i E
theorem reh_len (h : Nat → Nat) (n : Nat) (E : List Ent) : (reh h n E).length = n := by simp [reh]
theorem reh_at (h : Nat → Nat) {n i : Nat} (E : List Ent) (hi : i < n) : (reh h n E)[i]! = bk h i E := by
  rw [getElem!_pos _ i (by rw [reh_len]; exact hi)]
  simp [reh]
theorem bk_snoc (h : Nat → Nat) (i : Nat) (E : List Ent) (e : Ent) : bk h i (E ++ [e]) = if h e.k.toNat = i then bk h i E ++ [e] else bk h i E := by
  unfold bk
  rw [List.filter_append]
  by_cases hi : h e.k.toNat = i
  · simp [hi]
  · simp [hi]
theorem reh_snoc (h : Nat → Nat) {n : Nat} (E : List Ent) (e : Ent) (hb : h e.k.toNat < n) : reh h n (E ++ [e]) = (reh h n E).set (h e.k.toNat) (bk h (h e.k.toNat) E ++ [e]) := by
  refine List.ext_getElem? fun i => ?_
  by_cases hi : i < n
  · rw [List.getElem?_set, reh_len]
    have h1 : (reh h n (E ++ [e]))[i]? = some (bk h i (E ++ [e])) := by simp [reh, hi]
    have h2 : (reh h n E)[i]? = some (bk h i E) := by simp [reh, hi]
    rw [h1, h2, bk_snoc]
    by_cases e1 : h e.k.toNat = i
    · subst e1; simp [hb]
    · simp [e1]
  · rw [List.getElem?_eq_none (by rw [reh_len]; omega), List.getElem?_eq_none (by rw [List.length_set, reh_len]; omega)]
theorem bk_le (h : Nat → Nat) (i : Nat) (E : List Ent) : (bk h i E).length ≤ E.length := List.length_filter_le _ _
/-- How many entries stand ahead of a queue. -/
def cum (Ls : List (List Ent)) (i : Nat) : Nat := (Ls.take i).flatten.length
theorem cum_zero (Ls : List (List Ent)) : cum Ls 0 = 0 := rfl
theorem cum_succ {Ls : List (List Ent)} {i : Nat} (hi : i < Ls.length) : cum Ls (i + 1) = cum Ls i + Ls[i]!.length := by
  unfold cum
  rw [List.take_add_one, List.getElem?_eq_getElem hi, getElem!_pos Ls i hi]
  simp only [Option.toList_some, List.flatten_append, List.length_append, List.flatten_cons, List.flatten_nil, List.append_nil]
theorem cum_all (Ls : List (List Ent)) : cum Ls Ls.length = Ls.flatten.length := by simp [cum]
theorem cum_mono {Ls : List (List Ent)} {i : Nat} (hi : i < Ls.length) {k : Nat} (hk : k < Ls[i]!.length) : cum Ls i + k < Ls.flatten.length := by
  have h1 : Ls.flatten = (Ls.take i).flatten ++ (Ls.drop i).flatten := by rw [← List.flatten_append, List.take_append_drop]
  have h2 : Ls.drop i = Ls[i]! :: Ls.drop (i + 1) := by rw [List.drop_eq_getElem_cons hi, getElem!_pos Ls i hi]
  rw [h1, h2, List.flatten_cons, List.length_append, List.length_append]
  unfold cum
  omega
theorem cum_at {Ls : List (List Ent)} {i : Nat} (hi : i < Ls.length) {k : Nat} (hk : k < Ls[i]!.length) : Ls.flatten[cum Ls i + k]! = Ls[i]![k]! := by
  have h1 : Ls.flatten = (Ls.take i).flatten ++ (Ls.drop i).flatten := by rw [← List.flatten_append, List.take_append_drop]
  have h2 : Ls.drop i = Ls[i]! :: Ls.drop (i + 1) := by rw [List.drop_eq_getElem_cons hi, getElem!_pos Ls i hi]
  have h3 : Ls.flatten[cum Ls i + k]? = Ls[i]![k]? := by
    rw [h1, h2, List.flatten_cons, List.getElem?_append_right (by unfold cum; omega)]
    rw [show cum Ls i + k - (List.take i Ls).flatten.length = k by unfold cum; omega, List.getElem?_append_left hk]
  rw [List.getElem!_eq_getElem?_getD, List.getElem!_eq_getElem?_getD, h3]
theorem range_snoc (n : Nat) : List.range n ++ [n] = List.range (n + 1) := List.range_succ.symm
/-- Keys that may be. -/
def Keys (E : List Ent) : Prop := ∀ e ∈ E, ∃ k : Nat, e.k = (k : Int) ∧ k < 4294967296
theorem Keys.get {E : List Ent} (h : Keys E) (i : Nat) : ∃ k : Nat, E[i]!.k = (k : Int) ∧ k < 4294967296 := by
  by_cases hi : i < E.length
  · rw [getElem!_pos E i hi]
    exact h _ (List.getElem_mem hi)
  · rw [getElem!_neg E i hi]
    exact ⟨0, rfl, by omega⟩
theorem map_range_get (E : List Ent) : (List.range E.length).map (fun i => E[i]!) = E := by
  refine List.ext_getElem? fun i => ?_
  by_cases hi : i < E.length
  · simp [hi]
  · rw [List.getElem?_eq_none (by simp; omega), List.getElem?_eq_none (by omega)]
theorem map_snoc (f : Nat → Ent) (l : List Nat) (x : Nat) : (l ++ [x]).map f = l.map f ++ [f x] := by simp
end Go.Proofs.YthafnphpcdbnlaaGreat.S10
namespace Go.Proofs.YthafnphpcdbnlaaGreat.S10
open Go.Proofs.YthafnphpcdbnlaaGreat
open Go.RowKit

/-- Queues that are read: their memory lies below a base. -/
def Qs (w : World) (base : Nat) (A : Option Addr) (Ls : List (List Ent)) : Prop :=
  ∃ ss : List Value, ss.length = Ls.length ∧ Rd w base A ss ∧ ∀ i, i < Ls.length → ∃ A' c, ss[i]? = some (.slice A' Ls[i]!.length c) ∧ Ls[i]!.length ≤ c ∧ c ≤ 9223372036854775807 ∧ Rd w base A' (flat Ls[i]!)
theorem Qs.below {w w' : World} {base b : Nat} {A : Option Addr} {Ls : List (List Ent)} (h : Qs w base A Ls) (hb : Below b w w') (hbb : base ≤ b) : Qs w' base A Ls := by
  obtain ⟨ss, h0, h1, h2⟩ := h
  refine ⟨ss, h0, h1.below hb hbb, fun i hi => ?_⟩
  obtain ⟨A', c, e, hc, hc', hr⟩ := h2 i hi
  exact ⟨A', c, e, hc, hc', hr.below hb hbb⟩
theorem Qs.more {w : World} {base b : Nat} {A : Option Addr} {Ls : List (List Ent)} (h : Qs w base A Ls) (hb : base ≤ b) : Qs w b A Ls := by
  obtain ⟨ss, h0, h1, h2⟩ := h
  refine ⟨ss, h0, h1.more hb, fun i hi => ?_⟩
  obtain ⟨A', c, e, hc, hc', hr⟩ := h2 i hi
  exact ⟨A', c, e, hc, hc', hr.more hb⟩
theorem Qs.at {w : World} {base : Nat} {A : Option Addr} {Ls : List (List Ent)} (h : Qs w base A Ls) {i : Nat} (hi : i < Ls.length) : ∃ g o A' c, A = some ⟨g, o, none⟩ ∧ g < base ∧ w.cell? ⟨g, o + i, none⟩ = some (.slice A' Ls[i]!.length c) ∧ Ls[i]!.length ≤ c ∧ c ≤ 9223372036854775807 ∧ Rd w base A' (flat Ls[i]!) := by
  obtain ⟨ss, h0, h1, h2⟩ := h
  obtain ⟨g, o, e, hg, hl⟩ := h1 (by omega)
  obtain ⟨A', c, e', hc, hc', hr⟩ := h2 i hi
  exact ⟨g, o, A', c, e, hg, hl i _ e', hc, hc', hr⟩
theorem Qs.nil {w : World} {base : Nat} {A : Option Addr} : Qs w base A [] := ⟨[], rfl, Rd.nil, fun i hi => by simp at hi⟩

/-- A slice's own block, if it has one, is cells. -/
def CB (w : World) (v : Value) : Prop := ∀ g, v.ownBlock = some g → ∃ cs t m, w.heap[g]? = some (.cells cs t m)
theorem CB.turn {S : Nat → Prop} {w w' : World} {v : Value} (h : CB w v) (t : Turns S w w') (hs : ∀ g, v.ownBlock = some g → ¬ S g) : CB w' v := fun g e => by
  obtain ⟨cs, ty, m, h1⟩ := h g e
  exact ⟨cs, ty, m, (t.block g (Array.getElem?_eq_some_iff.1 h1).1 (hs g e)).trans h1⟩
theorem CB.set {w : World} {v : Value} (h : CB w v) (p : Addr) (x : Value) : CB (w.setCell p x) v := fun g e => by
  obtain ⟨cs, ty, m, h1⟩ := h g e
  by_cases hg : g = p.block
  · subst hg
    obtain ⟨hlt, hk⟩ := Array.getElem?_eq_some_iff.1 h1
    have : (w.setCell p x).heap[p.block]? = (w.heap.modify p.block _)[p.block]? := rfl
    rw [this, Array.getElem?_eq_getElem (by rw [Array.size_modify]; exact hlt), Array.getElem_modify_self, hk]
    exact ⟨_, _, _, rfl⟩
  · exact ⟨cs, ty, m, (Below.heap_setCell w p x g hg).trans h1⟩
theorem cells_at {w : World} {g o : Nat} (h : (w.cell? ⟨g, o, none⟩).isSome = true) : ∃ cs t m, w.heap[g]? = some (.cells cs t m) := by
  unfold World.cell? at h
  cases ho : w.heap[g]? with
  | none => simp [ho] at h
  | some ob => cases ob <;> simp_all
theorem Row.cb {w : World} {base sz n : Nat} {s : Value} {cs : List Value} (h : Row w base sz s n cs) (h0 : 0 < n) (hsz : 0 < sz) : CB w s := fun g e => by
  obtain ⟨A, cap, rfl, h0', h1, h2, h3, h4⟩ := h
  cases A with
  | none => simp [Value.ownBlock] at e
  | some ad =>
    obtain ⟨g', o, rfl, hb, hlt, hl, hc⟩ := h4 ad rfl
    obtain rfl : g' = g := by simpa [Value.ownBlock] using e
    exact cells_at (hc 0 (Nat.mul_pos (by omega) hsz)).1
theorem cb_none (w : World) : CB w (.slice none 0 0) := fun g e => by simp [Value.ownBlock] at e

/-- Queues of a call's own, each in memory of its own. -/
structure Tab (w : World) (base : Nat) (s : Value) (ss : List Value) (Ls : List (List Ent)) : Prop where
  row : Row w base 1 s Ls.length ss
  qs : ∀ i, i < Ls.length → ∃ v, ss[i]? = some v ∧ RowE w base v Ls[i]! ∧ CB w v
  out : CB w s
  off : ∀ (i : Nat) (v : Value) (g : Nat), ss[i]? = some v → v.ownBlock = some g → s.ownBlock ≠ some g
  apart : ∀ (i j : Nat) (v u : Value) (g : Nat), ss[i]? = some v → ss[j]? = some u → v.ownBlock = some g → u.ownBlock = some g → i = j
theorem Tab.len {w : World} {base : Nat} {s : Value} {ss : List Value} {Ls : List (List Ent)} (h : Tab w base s ss Ls) : ss.length = Ls.length := by
  have := h.row.len
  omega
theorem Tab.lt {w : World} {base : Nat} {s : Value} {ss : List Value} {Ls : List (List Ent)} (h : Tab w base s ss Ls) {i : Nat} {v : Value} {g : Nat} (hv : ss[i]? = some v) (e : v.ownBlock = some g) : base ≤ g ∧ g < w.heap.size := by
  have hi : i < Ls.length := by rw [← h.len]; exact (List.getElem?_eq_some_iff.1 hv).1
  obtain ⟨u, hu, hr, _⟩ := h.qs i hi
  rw [hv] at hu
  cases hu
  exact hr.lt g e
theorem tab_nil (w : World) (base : Nat) : Tab w base (.slice none 0 0) [] [] :=
  ⟨row_nil _ _ _, fun i hi => by simp at hi, cb_none w, fun i v g e => by simp at e, fun i j v u g e => by simp at e⟩
theorem Tab.keep {S : Nat → Prop} {w w' : World} {base : Nat} {s : Value} {ss : List Value} {Ls : List (List Ent)} (h : Tab w base s ss Ls) (t : Turns S w w') (h0 : ∀ g, s.ownBlock = some g → ¬ S g) (h1 : ∀ (i : Nat) (v : Value) (g : Nat), ss[i]? = some v → v.ownBlock = some g → ¬ S g) : Tab w' base s ss Ls :=
  ⟨h.row.keep t h0, fun i hi => by
    obtain ⟨v, hv, hr, hc⟩ := h.qs i hi
    exact ⟨v, hv, hr.keep t (fun g e => h1 i v g hv e), hc.turn t (fun g e => h1 i v g hv e)⟩, h.out.turn t h0, h.off, h.apart⟩
theorem Tab.new {w w' : World} {base : Nat} {s : Value} {ss : List Value} {Ls : List (List Ent)} (h : Tab w base s ss Ls) (hb : Below w.heap.size w w') : Tab w' base s ss Ls :=
  h.keep (Turns.of_below (S := fun _ => False) hb) (fun _ _ e => e) (fun _ _ _ _ _ e => e)
theorem Tab.base {w : World} {base b : Nat} {s : Value} {ss : List Value} {Ls : List (List Ent)} (h : Tab w base s ss Ls) (hb : b ≤ base) : Tab w b s ss Ls :=
  ⟨h.row.base hb, fun i hi => by
    obtain ⟨v, hv, hr, hc⟩ := h.qs i hi
    exact ⟨v, hv, hr.base hb, hc⟩, h.out, h.off, h.apart⟩
theorem get_app_ne {α : Type} [Inhabited α] {l : List α} {x : α} {i : Nat} (h : i < l.length) : (l ++ [x])[i]! = l[i]! := by
  rw [List.getElem!_eq_getElem?_getD, List.getElem!_eq_getElem?_getD, List.getElem?_append_left h]
theorem get_app_last {α : Type} [Inhabited α] {l : List α} {x : α} : (l ++ [x])[l.length]! = x := by
  rw [List.getElem!_eq_getElem?_getD]; simp
theorem get_set {α : Type} [Inhabited α] {l : List α} {x : α} {i j : Nat} (h : i < l.length) : (l.set i x)[j]! = if j = i then x else l[j]! := by
  rw [List.getElem!_eq_getElem?_getD, List.getElem!_eq_getElem?_getD, List.getElem?_set]
  by_cases e : i = j
  · subst e; simp [h]
  · rw [if_neg e, if_neg (fun e' => e e'.symm)]
/-- One more queue behind. -/
theorem Tab.push {w w1 w2 : World} {base : Nat} {s s' v : Value} {ss : List Value} {Ls : List (List Ent)} {D : List Ent} (h : Tab w base s ss Ls) (hbase : base ≤ w.heap.size) (hb : Below w.heap.size w w1) (hv : RowE w1 w.heap.size v D) (hc : CB w1 v)
    (hr : Row w2 base 1 s' (Ls.length + 1) (ss ++ [v])) (ht : Turns (fun k => s.ownBlock = some k) w1 w2) (hs : s'.ownBlock = s.ownBlock ∨ s'.ownBlock = some w1.heap.size) : Tab w2 base s' (ss ++ [v]) (Ls ++ [D]) := by
  have h1 := h.new hb
  have hlen := h.len
  have hnew : ∀ g, v.ownBlock = some g → w.heap.size ≤ g ∧ g < w1.heap.size := fun g e => hv.lt g e
  have hso : ∀ g, s.ownBlock = some g → g < w.heap.size := fun g e => (h.row.lt g e).2
  have hold : ∀ (i : Nat) (u : Value) (g : Nat), ss[i]? = some u → u.ownBlock = some g → g < w.heap.size := fun i u g hu e => (h.lt hu e).2
  have hvs : ∀ g, v.ownBlock = some g → s.ownBlock ≠ some g := fun g e e' => by have := hnew g e; have := hso g e'; omega
  have hcase : ∀ (i : Nat) (u : Value), (ss ++ [v])[i]? = some u → (i < Ls.length ∧ ss[i]? = some u) ∨ (i = Ls.length ∧ u = v) := fun i u e => by
    rcases Nat.lt_trichotomy i Ls.length with h' | h' | h'
    · rw [List.getElem?_append_left (by omega)] at e
      exact .inl ⟨h', e⟩
    · subst h'
      rw [← hlen, List.getElem?_append_right (Nat.le_refl _)] at e
      simp at e
      exact .inr ⟨rfl, e.symm⟩
    · rw [List.getElem?_append_right (by omega)] at e
      have := (List.getElem?_eq_some_iff.1 e).1
      simp at this; omega
  refine ⟨by rw [List.length_append]; exact hr, fun i hi => ?_, hr.cb (by omega) (by omega), fun i u g hu e => ?_, fun i j u u' g hu hu' e e' => ?_⟩
  · rw [List.length_append, List.length_singleton] at hi
    by_cases h' : i < Ls.length
    · obtain ⟨u, hu, hru, hcu⟩ := h1.qs i h'
      refine ⟨u, by rw [List.getElem?_append_left (by omega)]; exact hu, ?_, hcu.turn ht (fun g e => h.off i u g hu e)⟩
      rw [get_app_ne h']
      exact hru.keep ht (fun g e => h.off i u g hu e)
    · obtain rfl : i = Ls.length := by omega
      refine ⟨v, by rw [← hlen]; simp, ?_, hc.turn ht hvs⟩
      rw [get_app_last]
      exact (hv.keep ht hvs).base hbase
  · have hg : g < w1.heap.size := by
      rcases hcase i u hu with ⟨_, hu⟩ | ⟨_, rfl⟩
      · exact Nat.lt_of_lt_of_le (hold i u g hu e) hb.size
      · exact (hnew g e).2
    rcases hs with hs | hs
    · rw [hs]
      rcases hcase i u hu with ⟨_, hu⟩ | ⟨_, rfl⟩
      · exact h.off i u g hu e
      · exact hvs g e
    · rw [hs]; intro e2; simp at e2; omega
  · rcases hcase i u hu with ⟨_, q1⟩ | ⟨hi, q1⟩
    · rcases hcase j u' hu' with ⟨_, q2⟩ | ⟨hj, q2⟩
      · exact h.apart i j u u' g q1 q2 e e'
      · rw [q2] at e'
        have := hold i u g q1 e; have := hnew g e'; omega
    · rw [q1] at e
      rcases hcase j u' hu' with ⟨_, q2⟩ | ⟨hj, q2⟩
      · have := hold j u' g q2 e'; have := hnew g e; omega
      · omega
/-- One cell of a list of one-cell elements, stored. -/
theorem Row.set1 {w : World} {base g o n m cap : Nat} {cs : List Value} (h : Row w base 1 (.slice (some ⟨g, o, none⟩) m cap) n cs) {i : Nat} (hi : i < n) (v : Value) : Row (w.setCell ⟨g, o + i, none⟩ v) base 1 (.slice (some ⟨g, o, none⟩) m cap) n (cs.set i v) := by
  obtain ⟨A, cap', e, h0, h1, h2, h3, h4⟩ := h
  cases e
  refine ⟨_, cap, rfl, by rw [List.length_set]; exact h0, h1, h2, h3, fun ad e => ?_⟩
  cases e
  obtain ⟨g', o', e, hb, hlt, hl, hc⟩ := h4 _ rfl
  cases e
  refine ⟨g, o, rfl, hb, by simpa [World.setCell] using hlt, fun j u e => ?_, fun j hj => ⟨?_, ?_⟩⟩
  · by_cases ej : j = i
    · subst ej
      have hj : j < cs.length := by omega
      rw [List.getElem?_set_self hj] at e
      cases e
      obtain ⟨x, hx⟩ := Option.isSome_iff_exists.1 (hc j (by omega)).1
      exact World.cell?_setCell_same _ _ _ hx
    · rw [List.getElem?_set_ne (fun e => ej e.symm)] at e
      rw [World.cell?_setCell_other _ _ _ _ (by simp <;> omega)]
      exact hl j u e
  · by_cases ej : j = i
    · subst ej
      obtain ⟨x, hx⟩ := Option.isSome_iff_exists.1 (hc j (by omega)).1
      rw [World.cell?_setCell_same _ _ _ hx]; rfl
    · rw [World.cell?_setCell_other _ _ _ _ (by simp <;> omega)]
      exact (hc j hj).1
  · rw [World.frozen?_setCell]
    exact (hc j hj).2
/-- One queue turned: its slice stored anew. -/
theorem Tab.app {w w1 w2 : World} {base g0 o m c : Nat} {v v' : Value} {ss : List Value} {Ls : List (List Ent)} {D : List Ent} (h : Tab w base (.slice (some ⟨g0, o, none⟩) m c) ss Ls) (hb : Below w.heap.size w w1) {i : Nat} (hi : i < Ls.length) (hv : ss[i]? = some v)
    (hr : RowE w2 base v' D) (hcb : CB w2 v') (ht : Turns (fun k => v.ownBlock = some k) w1 w2) (hs : v'.ownBlock = v.ownBlock ∨ v'.ownBlock = some w1.heap.size) :
    Tab (w2.setCell ⟨g0, o + i, none⟩ v') base (.slice (some ⟨g0, o, none⟩) m c) (ss.set i v') (Ls.set i D) := by
  have h1 := h.new hb
  have hlen := h.len
  have hg0 : (Value.slice (some ⟨g0, o, none⟩) m c).ownBlock = some g0 := rfl
  have hlt0 : g0 < w.heap.size := (h.row.lt g0 hg0).2
  have hne0 : ∀ (j : Nat) (u : Value) (g : Nat), ss[j]? = some u → u.ownBlock = some g → g ≠ g0 := fun j u g hu e e' => h.off j u g hu e (by rw [hg0, e'])
  have hvlt : ∀ g, v.ownBlock = some g → g < w.heap.size := fun g e => (h.lt hv e).2
  have hv'0 : ∀ g, v'.ownBlock = some g → g ≠ g0 := fun g e => by
    rcases hs with hs | hs
    · exact hne0 i v g hv (by rw [← hs]; exact e)
    · rw [hs] at e; cases e; have := hb.size; omega
  have hSo : ∀ g, (Value.slice (some ⟨g0, o, none⟩) m c).ownBlock = some g → ¬ v.ownBlock = some g := fun g e e' => h.off i v g hv e' e
  have tset : Turns (fun k => k = g0) w2 (w2.setCell ⟨g0, o + i, none⟩ v') := (Turns.refl _ w2).setCell _ _ rfl
  have hcase : ∀ (j : Nat) (u : Value), (ss.set i v')[j]? = some u → (j ≠ i ∧ ss[j]? = some u) ∨ (j = i ∧ u = v') := fun j u e => by
    by_cases ej : j = i
    · subst ej
      rw [List.getElem?_set_self (by omega)] at e
      cases e
      exact .inr ⟨rfl, rfl⟩
    · rw [List.getElem?_set_ne (fun e => ej e.symm)] at e
      exact .inl ⟨ej, e⟩
  have hvv : ∀ (j : Nat) (u : Value) (g : Nat), j ≠ i → ss[j]? = some u → u.ownBlock = some g → v.ownBlock ≠ some g := fun j u g hj hu e e' => hj (h.apart j i u v g hu hv e e')
  refine ⟨by rw [List.length_set]; exact (h1.row.keep ht hSo).set1 hi v', fun j hj => ?_, (h1.out.turn ht hSo).set _ _, fun j u g hu e => ?_, fun j k u u' g hu hu' e e' => ?_⟩
  · rw [List.length_set] at hj
    rw [get_set hi]
    by_cases ej : j = i
    · subst ej
      rw [if_pos rfl]
      exact ⟨v', List.getElem?_set_self (by omega), hr.keep tset hv'0, hcb.set _ _⟩
    · rw [if_neg ej]
      obtain ⟨u, hu, hru, hcu⟩ := h1.qs j hj
      exact ⟨u, by rw [List.getElem?_set_ne (fun e => ej e.symm)]; exact hu, (hru.keep ht (fun g e => hvv j u g ej hu e)).keep tset (fun g e => hne0 j u g hu e), (hcu.turn ht (fun g e => hvv j u g ej hu e)).set _ _⟩
  · rw [hg0]
    rcases hcase j u hu with ⟨_, hu⟩ | ⟨_, rfl⟩
    · intro e2; exact hne0 j u g hu e (by simpa using e2.symm)
    · intro e2; exact hv'0 g e (by simpa using e2.symm)
  · have hx : ∀ (j : Nat) (u : Value), j ≠ i → ss[j]? = some u → u.ownBlock = some g → v'.ownBlock = some g → False := fun j u ej hu e e' => by
      rcases hs with hs | hs
      · exact hvv j u g ej hu e (by rw [← hs]; exact e')
      · rw [hs] at e'; cases e'; have := (h.lt hu e).2; have := hb.size; omega
    rcases hcase j u hu with ⟨ej, q1⟩ | ⟨ej, q1⟩
    · rcases hcase k u' hu' with ⟨ek, q2⟩ | ⟨ek, q2⟩
      · exact h.apart j k u u' g q1 q2 e e'
      · rw [q2] at e'
        exact (hx j u ej q1 e e').elim
    · rw [q1] at e
      rcases hcase k u' hu' with ⟨ek, q2⟩ | ⟨ek, q2⟩
      · exact (hx k u' ek q2 e' e).elim
      · omega
/-- Queues of a call's own, read. -/
theorem Tab.rd {w : World} {base m c : Nat} {A : Option Addr} {ss : List Value} {Ls : List (List Ent)} (h : Tab w base (.slice A m c) ss Ls) : m = Ls.length ∧ Qs w w.heap.size A Ls := by
  have hlen := h.len
  have hm : m = Ls.length := by obtain ⟨A', cap', e, _⟩ := h.row; cases e; rfl
  subst hm
  refine ⟨rfl, ss, hlen, h.row.rd, fun i hi => ?_⟩
  obtain ⟨v, hv, hr, _⟩ := h.qs i hi
  obtain ⟨A', c', rfl, h1, h2⟩ := hr.shape
  exact ⟨A', c', hv, h1, h2, hr.rd⟩
theorem Tab.shape {w : World} {base : Nat} {s : Value} {ss : List Value} {Ls : List (List Ent)} (h : Tab w base s ss Ls) : ∃ A c, s = .slice A Ls.length c ∧ Ls.length ≤ c ∧ c ≤ 9223372036854775807 := h.row.shape
end Go.Proofs.YthafnphpcdbnlaaGreat.S10
