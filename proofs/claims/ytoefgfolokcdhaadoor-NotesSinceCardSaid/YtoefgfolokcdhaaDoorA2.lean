/- More behind, in a walk; notes, as they lie. -/
import Derived.Test.YtoefgfolokcdhaaDoorA1
import Derived.Deep.RegionHeld
import Derived.RegionTactic
import Derived.Deep.CutRange
import Derived.Deep.LoopGhost
import Derived.Deep.RegionLaw
import Derived.Deep.DrawnRows
import Derived.Deep.QuietTactic
import Derived.BigQuiet
import Derived.Laws.StructEq
import Derived.Shelf.Abstract
import Derived.Lib.SliceRun
namespace Go.Proofs.YtoefgfolokcdhaaDoor
open Go.RowKit

section
variable {w : World} {S E sz bt : Nat} {z : Value}
theorem wp_append_row (L : Lay S E sz bt z) {o : Oper} {a : Act} {K : Act → World → Prop} {Q : Exit → Act → World → Prop} (s x : Operand)
    (ho : o.op = .call { callee := .builtin .append, args := #[s, x], argTypes := #[S, S] }) {base n : Nat} {v : Value} {cs : List Value} (hs : a.eval s = v) (h : Row w base sz v n cs) (h1c : ∀ u ∈ cs, u.oneCell' = true) (hbase : base ≤ w.heap.size)
    {b2 : Nat} {A : Option Addr} {m : Nat} {es : List Value} (c : Nat) (hx : a.eval x = .slice A m c) (hr : Rd w b2 A es) (hm : es.length = m * sz) (h1e : ∀ u ∈ es, u.oneCell' = true) (hlen : n + m ≤ 1000000)
    (hK : ∀ v' w', Row w' base sz v' (n + m) (cs ++ es) → Turns (fun k => v.ownBlock = some k) w w' → (v'.ownBlock = v.ownBlock ∨ v'.ownBlock = some w.heap.size) → K (a.put o.dst v') w') : o.wp Tryd.prog a w K Q := by
  obtain ⟨v', w', hrun, h2, h3, h4⟩ := row_append L h h1c hbase c hr hm h1e hlen o.type
  unfold Oper.wp execOp
  simp only [ho, resolve, invoke, builtin, Sem.run_bind, Sem.run_pure, Result.andThen_ok, List.map_toArray, List.map_cons, List.map_nil, hs, hx, hrun]
  exact hK v' w' h2 h3 h4
theorem wpList_append_row (L : Lay S E sz bt z) {ops : Array Oper} {rest : List Oper} {o : Oper} {a : Act} {Q : Exit → Act → World → Prop} (hgd : o.guard = none) (s x : Operand)
    (ho : o.op = .call { callee := .builtin .append, args := #[s, x], argTypes := #[S, S] }) {base n : Nat} {v : Value} {cs : List Value} (hs : a.eval s = v) (h : Row w base sz v n cs) (h1c : ∀ u ∈ cs, u.oneCell' = true) (hbase : base ≤ w.heap.size)
    {b2 : Nat} {A : Option Addr} {m : Nat} {es : List Value} (c : Nat) (hx : a.eval x = .slice A m c) (hr : Rd w b2 A es) (hm : es.length = m * sz) (h1e : ∀ u ∈ es, u.oneCell' = true) (hlen : n + m ≤ 1000000)
    (hK : ∀ v' w', Row w' base sz v' (n + m) (cs ++ es) → Turns (fun k => v.ownBlock = some k) w w' → (v'.ownBlock = v.ownBlock ∨ v'.ownBlock = some w.heap.size) → wpList Tryd.prog ops Q rest (a.put o.dst v') w') : wpList Tryd.prog ops Q (o :: rest) a w :=
  wpList_plain hgd fun _ hK' => wp_append_row L s x ho hs h h1c hbase c hx hr hm h1e hlen fun v' w' h2 h3 h4 => hK' _ _ (hK v' w' h2 h3 h4)
theorem step_append_row (L : Lay S E sz bt z) {ops : Array Oper} {o : Oper} {a : Act} {K : Act → World → Prop} {Q : Exit → Act → World → Prop} {F : Prop} (hgd : o.guard = none) (s x : Operand)
    (ho : o.op = .call { callee := .builtin .append, args := #[s, x], argTypes := #[S, S] }) {base n : Nat} {v : Value} {cs : List Value} (hs : a.eval s = v) (h : Row w base sz v n cs) (h1c : ∀ u ∈ cs, u.oneCell' = true) (hbase : base ≤ w.heap.size)
    {b2 : Nat} {A : Option Addr} {m : Nat} {es : List Value} (c : Nat) (hx : a.eval x = .slice A m c) (hr : Rd w b2 A es) (hm : es.length = m * sz) (h1e : ∀ u ∈ es, u.oneCell' = true) (hlen : n + m ≤ 1000000)
    (hK : ∀ v' w', Row w' base sz v' (n + m) (cs ++ es) → Turns (fun k => v.ownBlock = some k) w w' → (v'.ownBlock = v.ownBlock ∨ v'.ownBlock = some w.heap.size) → K (a.put o.dst v') w') :
    if Region.wanted o (yielded ops a.tmps) = true then Oper.wp Tryd.prog o a w K Q else F := by
  have hw : Region.wanted o (yielded ops a.tmps) = true := by simp [Region.wanted, hgd]
  rw [if_pos hw]
  exact wp_append_row L s x ho hs h h1c hbase c hx hr hm h1e hlen hK
end
theorem info_of {E sz bt : Nat} {z : Value} (h : (Tryd.prog.info? E).map (fun i => (i.zero, i.size, i.bytes)) = some (some z, sz, bt)) : ∃ i, Tryd.prog.info? E = some i ∧ i.zero = some z ∧ i.size = sz ∧ i.bytes = bt := by
  cases e : Tryd.prog.info? E with
  | none => rw [e] at h; cases h
  | some i =>
    rw [e] at h
    simp at h
    exact ⟨i, rfl, h.1, h.2.1, h.2.2⟩
/-- A note: its step, thread, kind, address, other thread, other address, value. -/
structure Nt where
  s : Int
  t : Int
  k : Nat
  a : Int
  o : Int
  b : Int
  v : Int
deriving DecidableEq
instance : Inhabited Nt := ⟨⟨0, 0, 0, 0, 0, 0, 0⟩⟩
def Nt.cs (K : IntKind) (e : Nt) : List Value := [.int .i64 e.s, .int .i64 e.t, .int K (e.k : Int), .int .u32 e.a, .int .i64 e.o, .int .u32 e.b, .int .u64 e.v]
abbrev ag (K : IntKind) (e : Nt) : Value := .agg #[.int .i64 e.s, .int .i64 e.t, .int K (e.k : Int), .int .u32 e.a, .int .i64 e.o, .int .u32 e.b, .int .u64 e.v]
theorem layP : Lay 22 37 7 48 (.agg #[.int .i64 0, .int .i64 0, .int .u8 0, .int .u32 0, .int .i64 0, .int .u32 0, .int .u64 0]) := ⟨Tryd.underlying22, info_of (by kernel_rfl), rfl, by decide, by decide⟩
theorem layR : Lay 27 40 7 56 (.agg #[.int .i64 0, .int .i64 0, .int .i64 0, .int .u32 0, .int .i64 0, .int .u32 0, .int .u64 0]) := ⟨Tryd.underlying27, info_of (by kernel_rfl), rfl, by decide, by decide⟩
def flat (K : IntKind) (D : List Nt) : List Value := D.flatMap (Nt.cs K)
section
variable (K : IntKind)
theorem flat_nil : flat K [] = [] := rfl
theorem flat_one (e : Nt) : flat K [e] = [.int .i64 e.s, .int .i64 e.t, .int K (e.k : Int), .int .u32 e.a, .int .i64 e.o, .int .u32 e.b, .int .u64 e.v] := rfl
theorem flat_app (D F : List Nt) : flat K (D ++ F) = flat K D ++ flat K F := by simp [flat]
theorem flat_len (D : List Nt) : (flat K D).length = D.length * 7 := by
  induction D with
  | nil => rfl
  | cons e r ih =>
    have : flat K (e :: r) = e.cs K ++ flat K r := rfl
    rw [this, List.length_append, ih]
    simp [Nt.cs]
    omega
theorem flat_one' (D : List Nt) : ∀ u ∈ flat K D, u.oneCell' = true := fun u hu => by
  simp only [flat, List.mem_flatMap] at hu
  obtain ⟨e, _, hu⟩ := hu
  simp [Nt.cs] at hu
  rcases hu with rfl | rfl | rfl | rfl | rfl | rfl | rfl <;> rfl
theorem flat_drop : ∀ (D : List Nt) (i : Nat), (flat K D).drop (i * 7) = flat K (D.drop i)
  | D, 0 => by simp
  | [], i + 1 => by simp [flat]
  | e :: r, i + 1 => by
    have h := flat_drop r i
    have e3 : flat K (e :: r) = e.cs K ++ flat K r := rfl
    rw [e3, show (i + 1) * 7 = (e.cs K).length + i * 7 by simp [Nt.cs]; omega, List.drop_append, Nat.add_sub_cancel_left, h, List.drop_eq_nil_of_le (Nat.le_add_right _ _)]
    simp
theorem flat_get (D : List Nt) (i : Nat) (hi : i < D.length) (j : Nat) (hj : j < 7) : (flat K D)[i * 7 + j]? = (D[i]!.cs K)[j]? := by
  rw [← List.getElem?_drop, flat_drop]
  have : D.drop i = D[i]! :: D.drop (i + 1) := by
    rw [List.drop_eq_getElem_cons hi]; simp [hi]
  rw [this]
  have e3 : flat K (D[i]! :: D.drop (i + 1)) = D[i]!.cs K ++ flat K (D.drop (i + 1)) := rfl
  rw [e3, List.getElem?_append_left (by simp [Nt.cs]; omega)]
end
/-- A note's seven cells. -/
structure NtAt (w : World) (K : IntKind) (g o : Nat) (e : Nt) : Prop where
  c0 : w.cell? ⟨g, o, none⟩ = some (.int .i64 e.s)
  c1 : w.cell? ⟨g, o + 1, none⟩ = some (.int .i64 e.t)
  c2 : w.cell? ⟨g, o + 2, none⟩ = some (.int K (e.k : Int))
  c3 : w.cell? ⟨g, o + 3, none⟩ = some (.int .u32 e.a)
  c4 : w.cell? ⟨g, o + 4, none⟩ = some (.int .i64 e.o)
  c5 : w.cell? ⟨g, o + 5, none⟩ = some (.int .u32 e.b)
  c6 : w.cell? ⟨g, o + 6, none⟩ = some (.int .u64 e.v)
theorem Lies.note {w : World} {K : IntKind} {g o : Nat} {D : List Nt} (h : Lies w g o (flat K D)) {i : Nat} (hi : i < D.length) : NtAt w K g (o + i * 7) D[i]! := by
  have hx : ∀ j u, (D[i]!.cs K)[j]? = some u → w.cell? ⟨g, o + i * 7 + j, none⟩ = some u := fun j u hu => by
    have hj : j < 7 := (List.getElem?_eq_some_iff.1 hu).1
    have := h (i * 7 + j) u ((flat_get K D i hi j hj).trans hu)
    rwa [← Nat.add_assoc] at this
  exact ⟨hx 0 _ rfl, hx 1 _ rfl, hx 2 _ rfl, hx 3 _ rfl, hx 4 _ rfl, hx 5 _ rfl, hx 6 _ rfl⟩
theorem Rd.note {w : World} {K : IntKind} {base : Nat} {A : Option Addr} {D : List Nt} (h : Rd w base A (flat K D)) {i : Nat} (hi : i < D.length) : ∃ g o, A = some ⟨g, o, none⟩ ∧ g < base ∧ NtAt w K g (o + i * 7) D[i]! := by
  obtain ⟨g, o, e, hg, hl⟩ := h (by rw [flat_len]; omega)
  exact ⟨g, o, e, hg, hl.note hi⟩
/-- A list that is read from a place on. -/
theorem Lies.from {w : World} {K : IntKind} {g o : Nat} {D : List Nt} (h : Lies w g o (flat K D)) (i : Nat) : Lies w g (o + i * 7) (flat K (D.drop i)) := fun j u e => by
  rw [← flat_drop, List.getElem?_drop] at e
  have := h _ u e
  rwa [← Nat.add_assoc] at this
theorem neq40 (d e : Nt) (w : World) : (binOp .neq 40 (ag .i64 d) (ag .i64 e)).run Tryd.prog w = .ok (.bool (!decide (d = e))) w := by
  obtain ⟨s, t, k, a, o, b, v⟩ := d; obtain ⟨s', t', k', a', o', b', v'⟩ := e
  simp [go_sem, Tryd.underlying40]
  by_cases h1 : s = s' <;> by_cases h2 : t = t' <;> by_cases h3 : k = k' <;> by_cases h4 : a = a' <;> by_cases h5 : o = o' <;> by_cases h6 : b = b' <;> by_cases h7 : v = v' <;> simp [h1, h2, h3, h4, h5, h6, h7, Int.ofNat_inj]
theorem neq37 (d e : Nt) (w : World) : (binOp .neq 37 (ag .u8 d) (ag .u8 e)).run Tryd.prog w = .ok (.bool (!decide (d = e))) w := by
  obtain ⟨s, t, k, a, o, b, v⟩ := d; obtain ⟨s', t', k', a', o', b', v'⟩ := e
  simp [go_sem, Tryd.underlying37]
  by_cases h1 : s = s' <;> by_cases h2 : t = t' <;> by_cases h3 : k = k' <;> by_cases h4 : a = a' <;> by_cases h5 : o = o' <;> by_cases h6 : b = b' <;> by_cases h7 : v = v' <;> simp [h1, h2, h3, h4, h5, h6, h7, Int.ofNat_inj]
end Go.Proofs.YtoefgfolokcdhaaDoor
