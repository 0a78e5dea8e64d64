/- A set of tables, as it lies: the model, the map by bits, who owns which block. -/
import Derived.Test.YtcdoklgjicfkmaaK1
import Derived.Maps.OwnOps
import Derived.Maps.Views
namespace Go.Proofs.Ytcdoklgjicfkmaa
open Go.RowKit

/-- A bucket: its timer, its queue. -/
structure Bk where
  a : Int
  f : Int
  q : List Ent
instance : Inhabited Bk := ⟨⟨0, 0, []⟩⟩
abbrev nilS : Value := .slice none 0 0
/-- A bucket's cells, one behind the other: at, fired, queue. -/
def bcell (L : List Bk) (V : Nat → Value) (j : Nat) : Value :=
  if j % 3 = 0 then .int .u64 L[j / 3]!.a else if j % 3 = 1 then .int .u64 L[j / 3]!.f else V (j / 3)
def bflat (L : List Bk) (V : Nat → Value) : List Value := (List.range (L.length * 3)).map (bcell L V)
theorem bflat_len (L : List Bk) (V : Nat → Value) : (bflat L V).length = L.length * 3 := by simp [bflat]
theorem bflat_at (L : List Bk) (V : Nat → Value) {j : Nat} (h : j < L.length * 3) : (bflat L V)[j]? = some (bcell L V j) := by simp [bflat, h]
theorem bflat_get (L : List Bk) (V : Nat → Value) {i : Nat} (h : i < L.length) : (bflat L V)[i * 3]? = some (.int .u64 L[i]!.a) ∧ (bflat L V)[i * 3 + 1]? = some (.int .u64 L[i]!.f) ∧ (bflat L V)[i * 3 + 2]? = some (V i) := by
  refine ⟨?_, ?_, ?_⟩
  · rw [bflat_at L V (by omega)]
    simp [bcell]
  · rw [bflat_at L V (by omega)]
    simp [bcell, Nat.add_mod, show (i * 3 + 1) / 3 = i by omega]
  · rw [bflat_at L V (by omega)]
    simp [bcell, Nat.add_mod, show (i * 3 + 2) / 3 = i by omega]
/-- A function, told anew at one place. -/
def upd {α β : Type} [DecidableEq α] (f : α → β) (x : α) (y : β) : α → β := fun z => if z = x then y else f z
theorem upd_same {α β : Type} [DecidableEq α] (f : α → β) (x : α) (y : β) : upd f x y x = y := by simp [upd]
theorem upd_ne {α β : Type} [DecidableEq α] (f : α → β) {x z : α} (y : β) (h : z ≠ x) : upd f x y z = f z := by simp [upd, h]
theorem bflat_ext {L L' : List Bk} {V V' : Nat → Value} {cs : List Value} (hl : cs.length = L'.length * 3) (h : ∀ j, j < L'.length * 3 → cs[j]? = some (bcell L' V' j)) : cs = bflat L' V' := by
  refine List.ext_getElem? fun j => ?_
  by_cases hj : j < L'.length * 3
  · rw [h j hj, bflat_at L' V' hj]
  · rw [List.getElem?_eq_none (by omega), List.getElem?_eq_none (by rw [bflat_len]; omega)]
/-- A queue put. -/
theorem bflat_q (L : List Bk) (V : Nat → Value) {i : Nat} (h : i < L.length) (v : Value) (q : List Ent) : (bflat L V).set (i * 3 + 2) v = bflat (L.set i { L[i]! with q := q }) (upd V i v) := by
  refine bflat_ext (L := L) (V := V) (by rw [List.length_set, List.length_set, bflat_len]) fun j hj => ?_
  rw [List.length_set] at hj
  unfold bcell
  rw [get_set h]
  by_cases e : j = i * 3 + 2
  · subst e
    rw [List.getElem?_set_self (by rw [bflat_len]; omega)]
    simp [Nat.add_mod, show (i * 3 + 2) / 3 = i by omega, upd_same]
  · rw [List.getElem?_set_ne (fun e' => e e'.symm), bflat_at L V hj]
    unfold bcell
    by_cases e2 : j / 3 = i
    · subst e2
      have : j % 3 ≠ 2 := fun e3 => e (by omega)
      by_cases e4 : j % 3 = 0
      · simp [e4]
      · simp [show j % 3 = 1 by omega]
    · rw [if_neg e2, upd_ne V v e2]
/-- A timer put: its first number, its second. -/
theorem bflat_a (L : List Bk) (V : Nat → Value) {i : Nat} (h : i < L.length) (a : Int) : (bflat L V).set (i * 3) (.int .u64 a) = bflat (L.set i { L[i]! with a := a }) V := by
  refine bflat_ext (L := L) (V := V) (by rw [List.length_set, List.length_set, bflat_len]) fun j hj => ?_
  rw [List.length_set] at hj
  unfold bcell
  rw [get_set h]
  by_cases e : j = i * 3
  · subst e
    rw [List.getElem?_set_self (by rw [bflat_len]; omega)]
    simp
  · rw [List.getElem?_set_ne (fun e' => e e'.symm), bflat_at L V hj]
    unfold bcell
    by_cases e2 : j / 3 = i
    · subst e2
      have : j % 3 ≠ 0 := fun e3 => e (by omega)
      by_cases e4 : j % 3 = 1
      · simp [e4]
      · simp [show j % 3 = 2 by omega]
    · rw [if_neg e2]
theorem bflat_f (L : List Bk) (V : Nat → Value) {i : Nat} (h : i < L.length) (f : Int) : (bflat L V).set (i * 3 + 1) (.int .u64 f) = bflat (L.set i { L[i]! with f := f }) V := by
  refine bflat_ext (L := L) (V := V) (by rw [List.length_set, List.length_set, bflat_len]) fun j hj => ?_
  rw [List.length_set] at hj
  unfold bcell
  rw [get_set h]
  by_cases e : j = i * 3 + 1
  · subst e
    rw [List.getElem?_set_self (by rw [bflat_len]; omega)]
    simp [Nat.add_mod, show (i * 3 + 1) / 3 = i by omega]
  · rw [List.getElem?_set_ne (fun e' => e e'.symm), bflat_at L V hj]
    unfold bcell
    by_cases e2 : j / 3 = i
    · subst e2
      have : j % 3 ≠ 1 := fun e3 => e (by omega)
      by_cases e4 : j % 3 = 0
      · simp [e4]
      · simp [show j % 3 = 2 by omega]
    · rw [if_neg e2]
/-- One cell of a list of a call's own, stored. -/
theorem Row.setAt {w : World} {base g o n sz cap m : Nat} {cs : List Value} (h : Row w base sz (.slice (some ⟨g, o, none⟩) m cap) n cs) {i : Nat} (hi : i < n * sz) (v : Value) : Row (w.setCell ⟨g, o + i, none⟩ v) base sz (.slice (some ⟨g, o, none⟩) m cap) n (cs.set i v) := by
  obtain ⟨A, cap', e, h0, h1, h2, h3, h4⟩ := h
  cases e
  refine ⟨_, cap, rfl, by rw [List.length_set]; exact h0, h1, h2, h3, fun ad e => ?_⟩
  cases e
  obtain ⟨g', o', e, hb, hlt, hl, hc⟩ := h4 _ rfl
  cases e
  have hcap : n * sz ≤ cap * sz := Nat.mul_le_mul_right _ h1
  refine ⟨g, o, rfl, hb, by simpa [World.setCell] using hlt, fun j u e => ?_, fun j hj => ⟨?_, ?_⟩⟩
  · by_cases ej : j = i
    · subst ej
      rw [List.getElem?_set_self (by omega)] at e
      cases e
      obtain ⟨x, hx⟩ := Option.isSome_iff_exists.1 (hc j (by omega)).1
      exact World.cell?_setCell_same _ _ _ hx
    · rw [List.getElem?_set_ne (fun e => ej e.symm)] at e
      rw [World.cell?_setCell_other _ _ _ _ (by simp <;> omega)]
      exact hl j u e
  · by_cases ej : j = i
    · subst ej
      obtain ⟨x, hx⟩ := Option.isSome_iff_exists.1 (hc j (by omega)).1
      rw [World.cell?_setCell_same _ _ _ hx]; rfl
    · rw [World.cell?_setCell_other _ _ _ _ (by simp <;> omega)]
      exact (hc j hj).1
  · rw [World.frozen?_setCell]
    exact (hc j hj).2

/-! ### the map -/
def secR (v : Value) : Option (DataW Value × List MemPlace) := some (.held v, [])
theorem key3 : Go.Maps.Keyed Try.prog 3 := Go.Maps.int_keyed Try.underlying3
def InI (b : Int) : Prop := -9223372036854775808 ≤ b ∧ b ≤ 9223372036854775807
theorem wfB {b : Int} (h : InI b) : (Lit.int .i64 b).wf = true := by
  unfold InI at h
  simp [Lit.wf, IntKind.min, IntKind.max, IntKind.bits, IntKind.signed]; omega
theorem keyB {b : Int} (h : InI b) : keyOf Try.prog 3 (.int .i64 b) = some (.int .i64 b) := Go.Maps.keyOf_int_mk Try.underlying3 (wfB h)
theorem isKeyB (b : Int) : WideAt.IsKeyLit (.int .i64 b) := trivial
/-- A map by bits: what is found at each. -/
def MapAt (w : World) (mb n : Nat) (F : Int → Value) : Prop :=
  ∃ D, w.ownsMap Try.prog 3 secR mb n D ∧ Go.Maps.IsMap D ∧ ∀ b, D.atKey (.int .i64 b) (.held nilS) = .held (F b)
theorem MapAt.lt {w : World} {mb n : Nat} {F : Int → Value} (h : MapAt w mb n F) : mb < w.heap.size := by
  obtain ⟨D, h, _⟩ := h
  exact h.lt
theorem MapAt.keep {S : Nat → Prop} {w w' : World} {mb n : Nat} {F : Int → Value} (h : MapAt w mb n F) (t : Turns S w w') (hs : ¬ S mb) : MapAt w' mb n F := by
  have hlt := h.lt
  obtain ⟨D, ⟨es, clock, hb, hF, hsz, hD⟩, h2, h3⟩ := h
  exact ⟨D, ⟨es, clock, (t.block mb hlt hs).trans hb, hF, hsz, hD⟩, h2, h3⟩
theorem MapAt.made (w : World) : MapAt (w.alloc (.map #[] 0)) w.heap.size 0 (fun _ => nilS) :=
  ⟨.map [], World.ownsMap_made w _ _ _, Go.Maps.isMap_empty, fun b => rfl⟩
theorem zero69 (w : World) : (zeroValue 69).run Try.prog w = .ok nilS w := by
  simp [zeroValue, go_sem, Try.underlying69]; rfl
theorem MapAt.look {w : World} {mb n : Nat} {F : Int → Value} (h : MapAt w mb n F) {b : Int} (hb : InI b) : (Instr.lookup 44 (.map (some mb)) (.int .i64 b) false).run Try.prog w = .ok (F b) w := by
  obtain ⟨D, h1, h2, h3⟩ := h
  obtain ⟨v, ps, hrun, hv⟩ := h1.lookup key3 Try.underlying44 (zero69 w) (z := nilS) (zd := .held nilS) (zp := []) rfl (keyB hb)
  rw [h3 b] at hv
  simp only [secR, Option.some.injEq, Prod.mk.injEq, DataW.held.injEq] at hv
  rw [hrun, hv.1]
theorem MapAt.put {w : World} {mb n : Nat} {F : Int → Value} (h : MapAt w mb n F) (hn : n < 1000000) {b : Int} (hb : InI b) (v : Value) : ∃ w', (Instr.mapUpdate 44 (.map (some mb)) (.int .i64 b) v).run Try.prog w = .ok () w' ∧ MapAt w' mb (n + 1) (upd F b v) ∧ w.grownBy w' (some mb) := by
  obtain ⟨D, h1, h2, h3⟩ := h
  obtain ⟨w', hrun, h4, h5⟩ := h1.update key3 Try.underlying44 (by unfold maxLen; omega) (key := .int .i64 b) (val := v) (keyB hb) (d := .held v) (ps := []) rfl
  refine ⟨w', hrun, ⟨_, h4, h2.put _ _, fun x => ?_⟩, h5⟩
  by_cases e : x = b
  · subst e
    rw [Go.Maps.atKey_put_same h2 (isKeyB x), upd_same]
  · rw [Go.Maps.atKey_put_other (fun e' => e (by simpa using e')), upd_ne F v e, h3]
end Go.Proofs.Ytcdoklgjicfkmaa
