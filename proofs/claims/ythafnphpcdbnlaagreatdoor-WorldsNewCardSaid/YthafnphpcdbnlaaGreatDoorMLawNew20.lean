/- Texts of this seat, one behind the other. -/
import Derived.Test.YthafnphpcdbnlaaGreatDoorMLawNew18
import Derived.Deep.RegionHeld
import Derived.RegionTactic
import Derived.Deep.CutRange
import Derived.Deep.LoopGhost
import Derived.Deep.RegionLaw
import Derived.Deep.DrawnRows
import Derived.Deep.QuietTactic
import Derived.BigQuiet
import Derived.Laws.StructEq
import Derived.Shelf.Abstract
import Derived.Lib.SliceRun
set_option linter.unusedVariables false
set_option linter.unusedSimpArgs false
set_option linter.unusedVariables false
set_option linter.unusedSimpArgs false
namespace Go.Proofs.YthafnphpcdbnlaaGreatDoor.S10
open Go.Proofs.YthafnphpcdbnlaaGreatDoor
open Go.RowKit

section
variable {w : World} {S E sz bt : Nat} {z : Value}
theorem wp_append_row (L : Lay S E sz bt z) {o : Oper} {a : Act} {K : Act → World → Prop} {Q : Exit → Act → World → Prop} (s x : Operand)
    (ho : o.op = .call { callee := .builtin .append, args := #[s, x], argTypes := #[S, S] }) {base n : Nat} {v : Value} {cs : List Value} (hs : a.eval s = v) (h : Row w base sz v n cs) (h1c : ∀ u ∈ cs, u.oneCell' = true) (hbase : base ≤ w.heap.size)
    {b2 : Nat} {A : Option Addr} {m : Nat} {es : List Value} (c : Nat) (hx : a.eval x = .slice A m c) (hr : Rd w b2 A es) (hm : es.length = m * sz) (h1e : ∀ u ∈ es, u.oneCell' = true) (hlen : n + m ≤ 1000000)
    (hK : ∀ v' w', Row w' base sz v' (n + m) (cs ++ es) → Turns (fun k => v.ownBlock = some k) w w' → (v'.ownBlock = v.ownBlock ∨ v'.ownBlock = some w.heap.size) → K (a.put o.dst v') w') : o.wp Tryz.prog a w K Q := by
  obtain ⟨v', w', hrun, h2, h3, h4⟩ := row_append L h h1c hbase c hr hm h1e hlen o.type
  unfold Oper.wp execOp
  simp only [ho, resolve, invoke, builtin, Sem.run_bind, Sem.run_pure, Result.andThen_ok, List.map_toArray, List.map_cons, List.map_nil, hs, hx, hrun]
  exact hK v' w' h2 h3 h4
theorem wpList_append_row (L : Lay S E sz bt z) {ops : Array Oper} {rest : List Oper} {o : Oper} {a : Act} {Q : Exit → Act → World → Prop} (hgd : o.guard = none) (s x : Operand)
    (ho : o.op = .call { callee := .builtin .append, args := #[s, x], argTypes := #[S, S] }) {base n : Nat} {v : Value} {cs : List Value} (hs : a.eval s = v) (h : Row w base sz v n cs) (h1c : ∀ u ∈ cs, u.oneCell' = true) (hbase : base ≤ w.heap.size)
    {b2 : Nat} {A : Option Addr} {m : Nat} {es : List Value} (c : Nat) (hx : a.eval x = .slice A m c) (hr : Rd w b2 A es) (hm : es.length = m * sz) (h1e : ∀ u ∈ es, u.oneCell' = true) (hlen : n + m ≤ 1000000)
    (hK : ∀ v' w', Row w' base sz v' (n + m) (cs ++ es) → Turns (fun k => v.ownBlock = some k) w w' → (v'.ownBlock = v.ownBlock ∨ v'.ownBlock = some w.heap.size) → wpList Tryz.prog ops Q rest (a.put o.dst v') w') : wpList Tryz.prog ops Q (o :: rest) a w :=
  wpList_plain hgd fun _ hK' => wp_append_row L s x ho hs h h1c hbase c hx hr hm h1e hlen fun v' w' h2 h3 h4 => hK' _ _ (hK v' w' h2 h3 h4)
theorem step_append_row (L : Lay S E sz bt z) {ops : Array Oper} {o : Oper} {a : Act} {K : Act → World → Prop} {Q : Exit → Act → World → Prop} {F : Prop} (hgd : o.guard = none) (s x : Operand)
    (ho : o.op = .call { callee := .builtin .append, args := #[s, x], argTypes := #[S, S] }) {base n : Nat} {v : Value} {cs : List Value} (hs : a.eval s = v) (h : Row w base sz v n cs) (h1c : ∀ u ∈ cs, u.oneCell' = true) (hbase : base ≤ w.heap.size)
    {b2 : Nat} {A : Option Addr} {m : Nat} {es : List Value} (c : Nat) (hx : a.eval x = .slice A m c) (hr : Rd w b2 A es) (hm : es.length = m * sz) (h1e : ∀ u ∈ es, u.oneCell' = true) (hlen : n + m ≤ 1000000)
    (hK : ∀ v' w', Row w' base sz v' (n + m) (cs ++ es) → Turns (fun k => v.ownBlock = some k) w w' → (v'.ownBlock = v.ownBlock ∨ v'.ownBlock = some w.heap.size) → K (a.put o.dst v') w') :
    if Region.wanted o (yielded ops a.tmps) = true then Oper.wp Tryz.prog o a w K Q else F := by
  have hw : Region.wanted o (yielded ops a.tmps) = true := by simp [Region.wanted, hgd]
  rw [if_pos hw]
  exact wp_append_row L s x ho hs h h1c hbase c hx hr hm h1e hlen hK
end
theorem info_of {E sz bt : Nat} {z : Value} (h : (Tryz.prog.info? E).map (fun i => (i.zero, i.size, i.bytes)) = some (some z, sz, bt)) : ∃ i, Tryz.prog.info? E = some i ∧ i.zero = some z ∧ i.size = sz ∧ i.bytes = bt := by
  cases e : Tryz.prog.info? E with
  | none => rw [e] at h; cases h
  | some i =>
    rw [e] at h
    simp at h
    exact ⟨i, rfl, h.1, h.2.1, h.2.2⟩
theorem layE : Lay 179 202 3 24 (.agg #[.int .i64 0, .int .u32 0, .int .u64 0]) := ⟨Tryz.underlying179, info_of (by kernel_rfl), rfl, by decide, by decide⟩
theorem layQ : Lay 142 179 1 24 (.slice none 0 0) := ⟨Tryz.underlying142, info_of (by kernel_rfl), rfl, by decide, by decide⟩
theorem layR : Lay 154 181 1 24 (.slice none 0 0) := ⟨Tryz.underlying154, info_of (by kernel_rfl), rfl, by decide, by decide⟩
theorem layO : Lay 181 193 3 24 (.agg #[.int .i64 0, .int .u32 0, .int .u64 0]) := ⟨Tryz.underlying181, info_of (by kernel_rfl), rfl, by decide, by decide⟩

/-- An entry: its thread, its key, its token. -/
structure Ent where
  t : Int
  k : Int
  z : Int
deriving DecidableEq
instance : Inhabited Ent := ⟨⟨0, 0, 0⟩⟩
def Ent.cs (e : Ent) : List Value := [.int .i64 e.t, .int .u32 e.k, .int .u64 e.z]
abbrev ag (e : Ent) : Value := .agg #[.int .i64 e.t, .int .u32 e.k, .int .u64 e.z]
def flat (D : List Ent) : List Value := D.flatMap Ent.cs
theorem flat_nil : flat [] = [] := rfl
theorem flat_one (e : Ent) : flat [e] = [.int .i64 e.t, .int .u32 e.k, .int .u64 e.z] := rfl
theorem flat_app (D F : List Ent) : flat (D ++ F) = flat D ++ flat F := by simp [flat]
theorem flat_len (D : List Ent) : (flat D).length = D.length * 3 := by
  induction D with
  | nil => rfl
  | cons e r ih =>
    have : flat (e :: r) = e.cs ++ flat r := rfl
    rw [this, List.length_append, ih]
    simp [Ent.cs]
    omega
theorem flat_one' (D : List Ent) : ∀ u ∈ flat D, u.oneCell' = true := fun u hu => by
  simp only [flat, List.mem_flatMap] at hu
  obtain ⟨e, _, hu⟩ := hu
  simp [Ent.cs] at hu
  rcases hu with rfl | rfl | rfl <;> rfl
theorem flat_get : ∀ (D : List Ent) (i : Nat), i < D.length → (flat D)[i * 3]? = some (.int .i64 D[i]!.t) ∧ (flat D)[i * 3 + 1]? = some (.int .u32 D[i]!.k) ∧ (flat D)[i * 3 + 2]? = some (.int .u64 D[i]!.z)
  | [], i, h => by simp at h
  | e :: r, 0, _ => ⟨rfl, rfl, rfl⟩
  | e :: r, i + 1, h => by
    have hr := flat_get r i (by simpa using h)
    have e3 : flat (e :: r) = .int .i64 e.t :: .int .u32 e.k :: .int .u64 e.z :: flat r := rfl
    have e4 : (e :: r)[i + 1]! = r[i]! := by simp
    rw [e3, e4, show (i + 1) * 3 = i * 3 + 3 by omega, show i * 3 + 3 + 1 = i * 3 + 1 + 3 by omega, show i * 3 + 3 + 2 = i * 3 + 2 + 3 by omega]
    exact hr
/-- An entry's three cells. -/
theorem Lies.ent {w : World} {g o : Nat} {D : List Ent} (h : Lies w g o (flat D)) {i : Nat} (hi : i < D.length) :
    w.cell? ⟨g, o + i * 3, none⟩ = some (.int .i64 D[i]!.t) ∧ w.cell? ⟨g, o + i * 3 + 1, none⟩ = some (.int .u32 D[i]!.k) ∧ w.cell? ⟨g, o + i * 3 + 2, none⟩ = some (.int .u64 D[i]!.z) := by
  obtain ⟨h0, h1, h2⟩ := flat_get D i hi
  exact ⟨h _ _ h0, by have := h _ _ h1; rwa [← Nat.add_assoc] at this, by have := h _ _ h2; rwa [← Nat.add_assoc] at this⟩
theorem Rd.ent {w : World} {base : Nat} {A : Option Addr} {D : List Ent} (h : Rd w base A (flat D)) {i : Nat} (hi : i < D.length) : ∃ g o, A = some ⟨g, o, none⟩ ∧ g < base ∧
    w.cell? ⟨g, o + i * 3, none⟩ = some (.int .i64 D[i]!.t) ∧ w.cell? ⟨g, o + i * 3 + 1, none⟩ = some (.int .u32 D[i]!.k) ∧ w.cell? ⟨g, o + i * 3 + 2, none⟩ = some (.int .u64 D[i]!.z) := by
  obtain ⟨g, o, e, hg, hl⟩ := h (by rw [flat_len]; omega)
  obtain ⟨h0, h1, h2⟩ := hl.ent hi
  exact ⟨g, o, e, hg, h0, h1, h2⟩
/-- A list that is read, whose cells are known to stand where they do. -/
theorem Rd.more_ent {w : World} {base : Nat} {A : Option Addr} {D : List Ent} (h : Rd w base A (flat D)) (hp : 0 < D.length) : ∃ g o, A = some ⟨g, o, none⟩ ∧ g < base ∧ Lies w g o (flat D) := h (by rw [flat_len]; omega)
theorem eqlE (d e : Ent) (w : World) : (binOp .eql 202 (ag d) (ag e)).run Tryz.prog w = .ok (.bool (decide (d = e))) w := by
  obtain ⟨t, k, z⟩ := d; obtain ⟨t', k', z'⟩ := e
  simp [go_sem, Tryz.underlying202]
  by_cases h1 : t = t' <;> by_cases h2 : k = k' <;> by_cases h3 : z = z' <;> simp [h1, h2, h3]
theorem neqE (d e : Ent) (w : World) : (binOp .neq 202 (ag d) (ag e)).run Tryz.prog w = .ok (.bool (!decide (d = e))) w := by
  obtain ⟨t, k, z⟩ := d; obtain ⟨t', k', z'⟩ := e
  simp [go_sem, Tryz.underlying202]
  by_cases h1 : t = t' <;> by_cases h2 : k = k' <;> by_cases h3 : z = z' <;> simp [h1, h2, h3]
theorem neqO (d e : Ent) (w : World) : (binOp .neq 193 (ag d) (ag e)).run Tryz.prog w = .ok (.bool (!decide (d = e))) w := by
  obtain ⟨t, k, z⟩ := d; obtain ⟨t', k', z'⟩ := e
  simp [go_sem, Tryz.underlying193]
  by_cases h1 : t = t' <;> by_cases h2 : k = k' <;> by_cases h3 : z = z' <;> simp [h1, h2, h3]
end Go.Proofs.YthafnphpcdbnlaaGreatDoor.S10
set_option linter.unusedVariables false
set_option linter.unusedSimpArgs false
namespace Go.Proofs.YthafnphpcdbnlaaGreatDoor.S10
open Go.Proofs.YthafnphpcdbnlaaGreatDoor
open Go.RowKit

theorem other_any (e : Ent) (w : World) : Calls Tryz.prog 89 #[ag e] w fun e' w' => e' = .returned (ag e) ∧ Below w.heap.size w w' := by
  go_enter Tryz.func89, Tryz.ntmps89
  go_wp2
  exact bodyPost_ret (v := ag e) (by simp [results, Tryz.results89, go_sem]) rfl ⟨rfl, ((Below.refl _ w).alloc (Nat.le_refl _) _).alloc (by simp) _⟩
theorem clip_any (A : Option Addr) (n cap : Nat) (w : World) (h : n ≤ cap) (hc : cap ≤ 9223372036854775807) : Calls Tryz.prog 99 #[.slice A n cap] w fun e w' => e = .returned (.slice A n n) ∧ w = w' := by
  go_enter Tryz.func99, Tryz.ntmps99
  go_wp2
  go_ret
  exact ⟨by simp, rfl⟩
theorem below1 (w : World) (o : Obj) : Below w.heap.size w (w.alloc o) := (Below.refl _ w).alloc (Nat.le_refl _) o
theorem Row.alloc {w : World} {base sz n : Nat} {s : Value} {cs : List Value} (h : Row w base sz s n cs) (o : Obj) : Row (w.alloc o) base sz s n cs := h.new (below1 w o)
/-- One entry, in new memory. -/
theorem rd_one (w : World) (d : Ent) (T : TypeId) : Rd (w.alloc (.cells #[.int .i64 d.t, .int .u32 d.k, .int .u64 d.z] T)) (w.heap.size + 1) (some ⟨w.heap.size, 0, none⟩) (flat [d]) := fun _ => by
  refine ⟨w.heap.size, 0, rfl, by omega, fun j u e => ?_⟩
  have hnew := heap_alloc_new w (.cells #[.int .i64 d.t, .int .u32 d.k, .int .u64 d.z] T)
  rw [cell_row hnew, Nat.zero_add]
  simpa [flat_one] using e
/-- One cell, in new memory. -/
theorem rd_one1 (w : World) (v : Value) (T : TypeId) : Rd (w.alloc (.cells #[v] T)) (w.heap.size + 1) (some ⟨w.heap.size, 0, none⟩) [v] := fun _ => by
  refine ⟨w.heap.size, 0, rfl, by omega, fun j u e => ?_⟩
  have hnew := heap_alloc_new w (.cells #[v] T)
  rw [cell_row hnew, Nat.zero_add]
  simpa using e
theorem take_snoc {α : Type} [Inhabited α] {D : List α} {k : Nat} (h : k < D.length) : D.take (k + 1) = D.take k ++ [D[k]!] := by
  rw [List.take_add_one, List.getElem?_eq_getElem h, getElem!_pos D k h]; rfl
theorem flat_snoc {D : List Ent} {k : Nat} (h : k < D.length) : flat (D.take (k + 1)) = flat (D.take k) ++ flat [D[k]!] := by rw [take_snoc h, flat_app]
/-- A list of entries of a call's own. -/
abbrev RowE (w : World) (base : Nat) (s : Value) (D : List Ent) : Prop := Row w base 3 s D.length (flat D)
/-- Cells that may be written. -/
def Wr (w : World) (g o m : Nat) : Prop := ∀ j, j < m → ∃ v, w.cell? ⟨g, o + j, none⟩ = some v ∧ w.frozen? ⟨g, o + j, none⟩ = false
theorem Wr.set {w : World} {g o m : Nat} (h : Wr w g o m) (x : Nat) (v : Value) : Wr (w.setCell ⟨g, x, none⟩ v) g o m := by
  intro j hj
  obtain ⟨u, hu, hf⟩ := h j hj
  by_cases e : o + j = x
  · subst e
    exact ⟨v, World.cell?_setCell_same _ _ _ hu, (World.frozen?_setCell _ _ _ _).trans hf⟩
  · exact ⟨u, (World.cell?_setCell_other _ _ _ _ (by simp; (try omega))).trans hu, (World.frozen?_setCell _ _ _ _).trans hf⟩
end Go.Proofs.YthafnphpcdbnlaaGreatDoor.S10
set_option linter.unusedVariables false
set_option linter.unusedSimpArgs false
namespace Go.Proofs.YthafnphpcdbnlaaGreatDoor.S10
open Go.Proofs.YthafnphpcdbnlaaGreatDoor
open Go.RowKit

/-- Queues that are read: their memory lies below a base. -/
def Qs (w : World) (base : Nat) (A : Option Addr) (Ls : List (List Ent)) : Prop :=
  ∃ ss : List Value, ss.length = Ls.length ∧ Rd w base A ss ∧ ∀ i, i < Ls.length → ∃ A' c, ss[i]? = some (.slice A' Ls[i]!.length c) ∧ Ls[i]!.length ≤ c ∧ c ≤ 9223372036854775807 ∧ Rd w base A' (flat Ls[i]!)
theorem Qs.below {w w' : World} {base b : Nat} {A : Option Addr} {Ls : List (List Ent)} (h : Qs w base A Ls) (hb : Below b w w') (hbb : base ≤ b) : Qs w' base A Ls := by
  obtain ⟨ss, h0, h1, h2⟩ := h
  refine ⟨ss, h0, h1.below hb hbb, fun i hi => ?_⟩
  obtain ⟨A', c, e, hc, hc', hr⟩ := h2 i hi
  exact ⟨A', c, e, hc, hc', hr.below hb hbb⟩
theorem Qs.more {w : World} {base b : Nat} {A : Option Addr} {Ls : List (List Ent)} (h : Qs w base A Ls) (hb : base ≤ b) : Qs w b A Ls := by
  obtain ⟨ss, h0, h1, h2⟩ := h
  refine ⟨ss, h0, h1.more hb, fun i hi => ?_⟩
  obtain ⟨A', c, e, hc, hc', hr⟩ := h2 i hi
  exact ⟨A', c, e, hc, hc', hr.more hb⟩
theorem Qs.at {w : World} {base : Nat} {A : Option Addr} {Ls : List (List Ent)} (h : Qs w base A Ls) {i : Nat} (hi : i < Ls.length) : ∃ g o A' c, A = some ⟨g, o, none⟩ ∧ g < base ∧ w.cell? ⟨g, o + i, none⟩ = some (.slice A' Ls[i]!.length c) ∧ Ls[i]!.length ≤ c ∧ c ≤ 9223372036854775807 ∧ Rd w base A' (flat Ls[i]!) := by
  obtain ⟨ss, h0, h1, h2⟩ := h
  obtain ⟨g, o, e, hg, hl⟩ := h1 (by omega)
  obtain ⟨A', c, e', hc, hc', hr⟩ := h2 i hi
  exact ⟨g, o, A', c, e, hg, hl i _ e', hc, hc', hr⟩
theorem Qs.nil {w : World} {base : Nat} {A : Option Addr} : Qs w base A [] := ⟨[], rfl, Rd.nil, fun i hi => by simp at hi⟩

/-- A slice's own block, if it has one, is cells. -/
def CB (w : World) (v : Value) : Prop := ∀ g, v.ownBlock = some g → ∃ cs t m, w.heap[g]? = some (.cells cs t m)
theorem CB.turn {S : Nat → Prop} {w w' : World} {v : Value} (h : CB w v) (t : Turns S w w') (hs : ∀ g, v.ownBlock = some g → ¬ S g) : CB w' v := fun g e => by
  obtain ⟨cs, ty, m, h1⟩ := h g e
  exact ⟨cs, ty, m, (t.block g (Array.getElem?_eq_some_iff.1 h1).1 (hs g e)).trans h1⟩
theorem CB.set {w : World} {v : Value} (h : CB w v) (p : Addr) (x : Value) : CB (w.setCell p x) v := fun g e => by
  obtain ⟨cs, ty, m, h1⟩ := h g e
  by_cases hg : g = p.block
  · subst hg
    obtain ⟨hlt, hk⟩ := Array.getElem?_eq_some_iff.1 h1
    have : (w.setCell p x).heap[p.block]? = (w.heap.modify p.block _)[p.block]? := rfl
    rw [this, Array.getElem?_eq_getElem (by rw [Array.size_modify]; exact hlt), Array.getElem_modify_self, hk]
    exact ⟨_, _, _, rfl⟩
  · exact ⟨cs, ty, m, (Below.heap_setCell w p x g hg).trans h1⟩
theorem cells_at {w : World} {g o : Nat} (h : (w.cell? ⟨g, o, none⟩).isSome = true) : ∃ cs t m, w.heap[g]? = some (.cells cs t m) := by
  unfold World.cell? at h
  cases ho : w.heap[g]? with
  | none => simp [ho] at h
  | some ob => cases ob <;> simp_all
theorem Row.cb {w : World} {base sz n : Nat} {s : Value} {cs : List Value} (h : Row w base sz s n cs) (h0 : 0 < n) (hsz : 0 < sz) : CB w s := fun g e => by
  obtain ⟨A, cap, rfl, h0', h1, h2, h3, h4⟩ := h
  cases A with
  | none => simp [Value.ownBlock] at e
  | some ad =>
    obtain ⟨g', o, rfl, hb, hlt, hl, hc⟩ := h4 ad rfl
    obtain rfl : g' = g := by simpa [Value.ownBlock] using e
    exact cells_at (hc 0 (Nat.mul_pos (by omega) hsz)).1
theorem cb_none (w : World) : CB w (.slice none 0 0) := fun g e => by simp [Value.ownBlock] at e

/-- Queues of a call's own, each in memory of its own. -/
structure Tab (w : World) (base : Nat) (s : Value) (ss : List Value) (Ls : List (List Ent)) : Prop where
  row : Row w base 1 s Ls.length ss
  qs : ∀ i, i < Ls.length → ∃ v, ss[i]? = some v ∧ RowE w base v Ls[i]! ∧ CB w v
  out : CB w s
  off : ∀ (i : Nat) (v : Value) (g : Nat), ss[i]? = some v → v.ownBlock = some g → s.ownBlock ≠ some g
  apart : ∀ (i j : Nat) (v u : Value) (g : Nat), ss[i]? = some v → ss[j]? = some u → v.ownBlock = some g → u.ownBlock = some g → i = j
theorem Tab.len {w : World} {base : Nat} {s : Value} {ss : List Value} {Ls : List (List Ent)} (h : Tab w base s ss Ls) : ss.length = Ls.length := by
  have := h.row.len
  omega
theorem Tab.lt {w : World} {base : Nat} {s : Value} {ss : List Value} {Ls : List (List Ent)} (h : Tab w base s ss Ls) {i : Nat} {v : Value} {g : Nat} (hv : ss[i]? = some v) (e : v.ownBlock = some g) : base ≤ g ∧ g < w.heap.size := by
  have hi : i < Ls.length := by rw [← h.len]; exact (List.getElem?_eq_some_iff.1 hv).1
  obtain ⟨u, hu, hr, _⟩ := h.qs i hi
  rw [hv] at hu
  cases hu
  exact hr.lt g e
theorem tab_nil (w : World) (base : Nat) : Tab w base (.slice none 0 0) [] [] :=
  ⟨row_nil _ _ _, fun i hi => by simp at hi, cb_none w, fun i v g e => by simp at e, fun i j v u g e => by simp at e⟩
theorem Tab.keep {S : Nat → Prop} {w w' : World} {base : Nat} {s : Value} {ss : List Value} {Ls : List (List Ent)} (h : Tab w base s ss Ls) (t : Turns S w w') (h0 : ∀ g, s.ownBlock = some g → ¬ S g) (h1 : ∀ (i : Nat) (v : Value) (g : Nat), ss[i]? = some v → v.ownBlock = some g → ¬ S g) : Tab w' base s ss Ls :=
  ⟨h.row.keep t h0, fun i hi => by
    obtain ⟨v, hv, hr, hc⟩ := h.qs i hi
    exact ⟨v, hv, hr.keep t (fun g e => h1 i v g hv e), hc.turn t (fun g e => h1 i v g hv e)⟩, h.out.turn t h0, h.off, h.apart⟩
theorem Tab.new {w w' : World} {base : Nat} {s : Value} {ss : List Value} {Ls : List (List Ent)} (h : Tab w base s ss Ls) (hb : Below w.heap.size w w') : Tab w' base s ss Ls :=
  h.keep (Turns.of_below (S := fun _ => False) hb) (fun _ _ e => e) (fun _ _ _ _ _ e => e)
theorem Tab.base {w : World} {base b : Nat} {s : Value} {ss : List Value} {Ls : List (List Ent)} (h : Tab w base s ss Ls) (hb : b ≤ base) : Tab w b s ss Ls :=
  ⟨h.row.base hb, fun i hi => by
    obtain ⟨v, hv, hr, hc⟩ := h.qs i hi
    exact ⟨v, hv, hr.base hb, hc⟩, h.out, h.off, h.apart⟩
theorem get_app_ne {α : Type} [Inhabited α] {l : List α} {x : α} {i : Nat} (h : i < l.length) : (l ++ [x])[i]! = l[i]! := by
  rw [List.getElem!_eq_getElem?_getD, List.getElem!_eq_getElem?_getD, List.getElem?_append_left h]
theorem get_app_last {α : Type} [Inhabited α] {l : List α} {x : α} : (l ++ [x])[l.length]! = x := by
  rw [List.getElem!_eq_getElem?_getD]; simp
theorem get_set {α : Type} [Inhabited α] {l : List α} {x : α} {i j : Nat} (h : i < l.length) : (l.set i x)[j]! = if j = i then x else l[j]! := by
  rw [List.getElem!_eq_getElem?_getD, List.getElem!_eq_getElem?_getD, List.getElem?_set]
  by_cases e : i = j
  · subst e; simp [h]
  · rw [if_neg e, if_neg (fun e' => e e'.symm)]
/-- One more queue behind. -/
theorem Tab.push {w w1 w2 : World} {base : Nat} {s s' v : Value} {ss : List Value} {Ls : List (List Ent)} {D : List Ent} (h : Tab w base s ss Ls) (hbase : base ≤ w.heap.size) (hb : Below w.heap.size w w1) (hv : RowE w1 w.heap.size v D) (hc : CB w1 v)
    (hr : Row w2 base 1 s' (Ls.length + 1) (ss ++ [v])) (ht : Turns (fun k => s.ownBlock = some k) w1 w2) (hs : s'.ownBlock = s.ownBlock ∨ s'.ownBlock = some w1.heap.size) : Tab w2 base s' (ss ++ [v]) (Ls ++ [D]) := by
  have h1 := h.new hb
  have hlen := h.len
  have hnew : ∀ g, v.ownBlock = some g → w.heap.size ≤ g ∧ g < w1.heap.size := fun g e => hv.lt g e
  have hso : ∀ g, s.ownBlock = some g → g < w.heap.size := fun g e => (h.row.lt g e).2
  have hold : ∀ (i : Nat) (u : Value) (g : Nat), ss[i]? = some u → u.ownBlock = some g → g < w.heap.size := fun i u g hu e => (h.lt hu e).2
  have hvs : ∀ g, v.ownBlock = some g → s.ownBlock ≠ some g := fun g e e' => by have := hnew g e; have := hso g e'; omega
  have hcase : ∀ (i : Nat) (u : Value), (ss ++ [v])[i]? = some u → (i < Ls.length ∧ ss[i]? = some u) ∨ (i = Ls.length ∧ u = v) := fun i u e => by
    rcases Nat.lt_trichotomy i Ls.length with h' | h' | h'
    · rw [List.getElem?_append_left (by omega)] at e
      exact .inl ⟨h', e⟩
    · subst h'
      rw [← hlen, List.getElem?_append_right (Nat.le_refl _)] at e
      simp at e
      exact .inr ⟨rfl, e.symm⟩
    · rw [List.getElem?_append_right (by omega)] at e
      have := (List.getElem?_eq_some_iff.1 e).1
      simp at this; omega
  refine ⟨by rw [List.length_append]; exact hr, fun i hi => ?_, hr.cb (by omega) (by omega), fun i u g hu e => ?_, fun i j u u' g hu hu' e e' => ?_⟩
  · rw [List.length_append, List.length_singleton] at hi
    by_cases h' : i < Ls.length
    · obtain ⟨u, hu, hru, hcu⟩ := h1.qs i h'
      refine ⟨u, by rw [List.getElem?_append_left (by omega)]; exact hu, ?_, hcu.turn ht (fun g e => h.off i u g hu e)⟩
      rw [get_app_ne h']
      exact hru.keep ht (fun g e => h.off i u g hu e)
    · obtain rfl : i = Ls.length := by omega
      refine ⟨v, by rw [← hlen]; simp, ?_, hc.turn ht hvs⟩
      rw [get_app_last]
      exact (hv.keep ht hvs).base hbase
  · have hg : g < w1.heap.size := by
      rcases hcase i u hu with ⟨_, hu⟩ | ⟨_, rfl⟩
      · exact Nat.lt_of_lt_of_le (hold i u g hu e) hb.size
      · exact (hnew g e).2
    rcases hs with hs | hs
    · rw [hs]
      rcases hcase i u hu with ⟨_, hu⟩ | ⟨_, rfl⟩
      · exact h.off i u g hu e
      · exact hvs g e
    · rw [hs]; intro e2; simp at e2; omega
  · rcases hcase i u hu with ⟨_, q1⟩ | ⟨hi, q1⟩
    · rcases hcase j u' hu' with ⟨_, q2⟩ | ⟨hj, q2⟩
      · exact h.apart i j u u' g q1 q2 e e'
      · rw [q2] at e'
        have := hold i u g q1 e; have := hnew g e'; omega
    · rw [q1] at e
      rcases hcase j u' hu' with ⟨_, q2⟩ | ⟨hj, q2⟩
      · have := hold j u' g q2 e'; have := hnew g e; omega
      · omega
/-- One cell of a list of one-cell elements, stored. -/
theorem Row.set1 {w : World} {base g o n m cap : Nat} {cs : List Value} (h : Row w base 1 (.slice (some ⟨g, o, none⟩) m cap) n cs) {i : Nat} (hi : i < n) (v : Value) : Row (w.setCell ⟨g, o + i, none⟩ v) base 1 (.slice (some ⟨g, o, none⟩) m cap) n (cs.set i v) := by
  obtain ⟨A, cap', e, h0, h1, h2, h3, h4⟩ := h
  cases e
  refine ⟨_, cap, rfl, by rw [List.length_set]; exact h0, h1, h2, h3, fun ad e => ?_⟩
  cases e
  obtain ⟨g', o', e, hb, hlt, hl, hc⟩ := h4 _ rfl
  cases e
  refine ⟨g, o, rfl, hb, by simpa [World.setCell] using hlt, fun j u e => ?_, fun j hj => ⟨?_, ?_⟩⟩
  · by_cases ej : j = i
    · subst ej
      have hj : j < cs.length := by omega
      rw [List.getElem?_set_self hj] at e
      cases e
      obtain ⟨x, hx⟩ := Option.isSome_iff_exists.1 (hc j (by omega)).1
      exact World.cell?_setCell_same _ _ _ hx
    · rw [List.getElem?_set_ne (fun e => ej e.symm)] at e
      rw [World.cell?_setCell_other _ _ _ _ (by simp <;> omega)]
      exact hl j u e
  · by_cases ej : j = i
    · subst ej
      obtain ⟨x, hx⟩ := Option.isSome_iff_exists.1 (hc j (by omega)).1
      rw [World.cell?_setCell_same _ _ _ hx]; rfl
    · rw [World.cell?_setCell_other _ _ _ _ (by simp <;> omega)]
      exact (hc j hj).1
  · rw [World.frozen?_setCell]
    exact (hc j hj).2
/-- One queue turned: its slice stored anew. -/
theorem Tab.app {w w1 w2 : World} {base g0 o m c : Nat} {v v' : Value} {ss : List Value} {Ls : List (List Ent)} {D : List Ent} (h : Tab w base (.slice (some ⟨g0, o, none⟩) m c) ss Ls) (hb : Below w.heap.size w w1) {i : Nat} (hi : i < Ls.length) (hv : ss[i]? = some v)
    (hr : RowE w2 base v' D) (hcb : CB w2 v') (ht : Turns (fun k => v.ownBlock = some k) w1 w2) (hs : v'.ownBlock = v.ownBlock ∨ v'.ownBlock = some w1.heap.size) :
    Tab (w2.setCell ⟨g0, o + i, none⟩ v') base (.slice (some ⟨g0, o, none⟩) m c) (ss.set i v') (Ls.set i D) := by
  have h1 := h.new hb
  have hlen := h.len
  have hg0 : (Value.slice (some ⟨g0, o, none⟩) m c).ownBlock = some g0 := rfl
  have hlt0 : g0 < w.heap.size := (h.row.lt g0 hg0).2
  have hne0 : ∀ (j : Nat) (u : Value) (g : Nat), ss[j]? = some u → u.ownBlock = some g → g ≠ g0 := fun j u g hu e e' => h.off j u g hu e (by rw [hg0, e'])
  have hvlt : ∀ g, v.ownBlock = some g → g < w.heap.size := fun g e => (h.lt hv e).2
  have hv'0 : ∀ g, v'.ownBlock = some g → g ≠ g0 := fun g e => by
    rcases hs with hs | hs
    · exact hne0 i v g hv (by rw [← hs]; exact e)
    · rw [hs] at e; cases e; have := hb.size; omega
  have hSo : ∀ g, (Value.slice (some ⟨g0, o, none⟩) m c).ownBlock = some g → ¬ v.ownBlock = some g := fun g e e' => h.off i v g hv e' e
  have tset : Turns (fun k => k = g0) w2 (w2.setCell ⟨g0, o + i, none⟩ v') := (Turns.refl _ w2).setCell _ _ rfl
  have hcase : ∀ (j : Nat) (u : Value), (ss.set i v')[j]? = some u → (j ≠ i ∧ ss[j]? = some u) ∨ (j = i ∧ u = v') := fun j u e => by
    by_cases ej : j = i
    · subst ej
      rw [List.getElem?_set_self (by omega)] at e
      cases e
      exact .inr ⟨rfl, rfl⟩
    · rw [List.getElem?_set_ne (fun e => ej e.symm)] at e
      exact .inl ⟨ej, e⟩
  have hvv : ∀ (j : Nat) (u : Value) (g : Nat), j ≠ i → ss[j]? = some u → u.ownBlock = some g → v.ownBlock ≠ some g := fun j u g hj hu e e' => hj (h.apart j i u v g hu hv e e')
  refine ⟨by rw [List.length_set]; exact (h1.row.keep ht hSo).set1 hi v', fun j hj => ?_, (h1.out.turn ht hSo).set _ _, fun j u g hu e => ?_, fun j k u u' g hu hu' e e' => ?_⟩
  · rw [List.length_set] at hj
    rw [get_set hi]
    by_cases ej : j = i
    · subst ej
      rw [if_pos rfl]
      exact ⟨v', List.getElem?_set_self (by omega), hr.keep tset hv'0, hcb.set _ _⟩
    · rw [if_neg ej]
      obtain ⟨u, hu, hru, hcu⟩ := h1.qs j hj
      exact ⟨u, by rw [List.getElem?_set_ne (fun e => ej e.symm)]; exact hu, (hru.keep ht (fun g e => hvv j u g ej hu e)).keep tset (fun g e => hne0 j u g hu e), (hcu.turn ht (fun g e => hvv j u g ej hu e)).set _ _⟩
  · rw [hg0]
    rcases hcase j u hu with ⟨_, hu⟩ | ⟨_, rfl⟩
    · intro e2; exact hne0 j u g hu e (by simpa using e2.symm)
    · intro e2; exact hv'0 g e (by simpa using e2.symm)
  · have hx : ∀ (j : Nat) (u : Value), j ≠ i → ss[j]? = some u → u.ownBlock = some g → v'.ownBlock = some g → False := fun j u ej hu e e' => by
      rcases hs with hs | hs
      · exact hvv j u g ej hu e (by rw [← hs]; exact e')
      · rw [hs] at e'; cases e'; have := (h.lt hu e).2; have := hb.size; omega
    rcases hcase j u hu with ⟨ej, q1⟩ | ⟨ej, q1⟩
    · rcases hcase k u' hu' with ⟨ek, q2⟩ | ⟨ek, q2⟩
      · exact h.apart j k u u' g q1 q2 e e'
      · rw [q2] at e'
        exact (hx j u ej q1 e e').elim
    · rw [q1] at e
      rcases hcase k u' hu' with ⟨ek, q2⟩ | ⟨ek, q2⟩
      · exact (hx k u' ek q2 e' e).elim
      · omega
/-- Queues of a call's own, read. -/
theorem Tab.rd {w : World} {base m c : Nat} {A : Option Addr} {ss : List Value} {Ls : List (List Ent)} (h : Tab w base (.slice A m c) ss Ls) : m = Ls.length ∧ Qs w w.heap.size A Ls := by
  have hlen := h.len
  have hm : m = Ls.length := by obtain ⟨A', cap', e, _⟩ := h.row; cases e; rfl
  subst hm
  refine ⟨rfl, ss, hlen, h.row.rd, fun i hi => ?_⟩
  obtain ⟨v, hv, hr, _⟩ := h.qs i hi
  obtain ⟨A', c', rfl, h1, h2⟩ := hr.shape
  exact ⟨A', c', hv, h1, h2, hr.rd⟩
theorem Tab.shape {w : World} {base : Nat} {s : Value} {ss : List Value} {Ls : List (List Ent)} (h : Tab w base s ss Ls) : ∃ A c, s = .slice A Ls.length c ∧ Ls.length ≤ c ∧ c ≤ 9223372036854775807 := h.row.shape
end Go.Proofs.YthafnphpcdbnlaaGreatDoor.S10
