/- More behind, in a walk; entries, as they lie. -/
import Derived.Test.YtcdoklgjicfkmaaA1
import Derived.Deep.RegionHeld
import Derived.RegionTactic
import Derived.Deep.CutRange
import Derived.Deep.LoopGhost
import Derived.Deep.RegionLaw
import Derived.Deep.DrawnRows
import Derived.Deep.QuietTactic
import Derived.BigQuiet
import Derived.Laws.StructEq
import Derived.Shelf.Abstract
import Derived.Lib.SliceRun
namespace Go.Proofs.Ytcdoklgjicfkmaa
open Go.RowKit

section
variable {w : World} {S E sz bt : Nat} {z : Value}
theorem wp_append_row (L : Lay S E sz bt z) {o : Oper} {a : Act} {K : Act → World → Prop} {Q : Exit → Act → World → Prop} (s x : Operand)
    (ho : o.op = .call { callee := .builtin .append, args := #[s, x], argTypes := #[S, S] }) {base n : Nat} {v : Value} {cs : List Value} (hs : a.eval s = v) (h : Row w base sz v n cs) (h1c : ∀ u ∈ cs, u.oneCell' = true) (hbase : base ≤ w.heap.size)
    {b2 : Nat} {A : Option Addr} {m : Nat} {es : List Value} (c : Nat) (hx : a.eval x = .slice A m c) (hr : Rd w b2 A es) (hm : es.length = m * sz) (h1e : ∀ u ∈ es, u.oneCell' = true) (hlen : n + m ≤ 1000000)
    (hK : ∀ v' w', Row w' base sz v' (n + m) (cs ++ es) → Turns (fun k => v.ownBlock = some k) w w' → (v'.ownBlock = v.ownBlock ∨ v'.ownBlock = some w.heap.size) → K (a.put o.dst v') w') : o.wp Try.prog a w K Q := by
  obtain ⟨v', w', hrun, h2, h3, h4⟩ := row_append L h h1c hbase c hr hm h1e hlen o.type
  unfold Oper.wp execOp
  simp only [ho, resolve, invoke, builtin, Sem.run_bind, Sem.run_pure, Result.andThen_ok, List.map_toArray, List.map_cons, List.map_nil, hs, hx, hrun]
  exact hK v' w' h2 h3 h4
theorem wpList_append_row (L : Lay S E sz bt z) {ops : Array Oper} {rest : List Oper} {o : Oper} {a : Act} {Q : Exit → Act → World → Prop} (hgd : o.guard = none) (s x : Operand)
    (ho : o.op = .call { callee := .builtin .append, args := #[s, x], argTypes := #[S, S] }) {base n : Nat} {v : Value} {cs : List Value} (hs : a.eval s = v) (h : Row w base sz v n cs) (h1c : ∀ u ∈ cs, u.oneCell' = true) (hbase : base ≤ w.heap.size)
    {b2 : Nat} {A : Option Addr} {m : Nat} {es : List Value} (c : Nat) (hx : a.eval x = .slice A m c) (hr : Rd w b2 A es) (hm : es.length = m * sz) (h1e : ∀ u ∈ es, u.oneCell' = true) (hlen : n + m ≤ 1000000)
    (hK : ∀ v' w', Row w' base sz v' (n + m) (cs ++ es) → Turns (fun k => v.ownBlock = some k) w w' → (v'.ownBlock = v.ownBlock ∨ v'.ownBlock = some w.heap.size) → wpList Try.prog ops Q rest (a.put o.dst v') w') : wpList Try.prog ops Q (o :: rest) a w :=
  wpList_plain hgd fun _ hK' => wp_append_row L s x ho hs h h1c hbase c hx hr hm h1e hlen fun v' w' h2 h3 h4 => hK' _ _ (hK v' w' h2 h3 h4)
theorem step_append_row (L : Lay S E sz bt z) {ops : Array Oper} {o : Oper} {a : Act} {K : Act → World → Prop} {Q : Exit → Act → World → Prop} {F : Prop} (hgd : o.guard = none) (s x : Operand)
    (ho : o.op = .call { callee := .builtin .append, args := #[s, x], argTypes := #[S, S] }) {base n : Nat} {v : Value} {cs : List Value} (hs : a.eval s = v) (h : Row w base sz v n cs) (h1c : ∀ u ∈ cs, u.oneCell' = true) (hbase : base ≤ w.heap.size)
    {b2 : Nat} {A : Option Addr} {m : Nat} {es : List Value} (c : Nat) (hx : a.eval x = .slice A m c) (hr : Rd w b2 A es) (hm : es.length = m * sz) (h1e : ∀ u ∈ es, u.oneCell' = true) (hlen : n + m ≤ 1000000)
    (hK : ∀ v' w', Row w' base sz v' (n + m) (cs ++ es) → Turns (fun k => v.ownBlock = some k) w w' → (v'.ownBlock = v.ownBlock ∨ v'.ownBlock = some w.heap.size) → K (a.put o.dst v') w') :
    if Region.wanted o (yielded ops a.tmps) = true then Oper.wp Try.prog o a w K Q else F := by
  have hw : Region.wanted o (yielded ops a.tmps) = true := by simp [Region.wanted, hgd]
  rw [if_pos hw]
  exact wp_append_row L s x ho hs h h1c hbase c hx hr hm h1e hlen hK
end
theorem info_of {E sz bt : Nat} {z : Value} (h : (Try.prog.info? E).map (fun i => (i.zero, i.size, i.bytes)) = some (some z, sz, bt)) : ∃ i, Try.prog.info? E = some i ∧ i.zero = some z ∧ i.size = sz ∧ i.bytes = bt := by
  cases e : Try.prog.info? E with
  | none => rw [e] at h; cases h
  | some i =>
    rw [e] at h
    simp at h
    exact ⟨i, rfl, h.1, h.2.1, h.2.2⟩
theorem layE : Lay 31 65 3 24 (.agg #[.int .i64 0, .int .u32 0, .int .u64 0]) := ⟨Try.underlying31, info_of (by kernel_rfl), rfl, by decide, by decide⟩
theorem layQ : Lay 57 31 1 24 (.slice none 0 0) := ⟨Try.underlying57, info_of (by kernel_rfl), rfl, by decide, by decide⟩
theorem layR : Lay 71 83 1 24 (.slice none 0 0) := ⟨Try.underlying71, info_of (by kernel_rfl), rfl, by decide, by decide⟩
theorem layO : Lay 83 95 3 24 (.agg #[.int .i64 0, .int .u32 0, .int .u64 0]) := ⟨Try.underlying83, info_of (by kernel_rfl), rfl, by decide, by decide⟩

/-- An entry: its thread, its key, its token. -/
structure Ent where
  t : Int
  k : Int
  z : Int
deriving DecidableEq
instance : Inhabited Ent := ⟨⟨0, 0, 0⟩⟩
def Ent.cs (e : Ent) : List Value := [.int .i64 e.t, .int .u32 e.k, .int .u64 e.z]
abbrev ag (e : Ent) : Value := .agg #[.int .i64 e.t, .int .u32 e.k, .int .u64 e.z]
def flat (D : List Ent) : List Value := D.flatMap Ent.cs
theorem flat_nil : flat [] = [] := rfl
theorem flat_one (e : Ent) : flat [e] = [.int .i64 e.t, .int .u32 e.k, .int .u64 e.z] := rfl
theorem flat_app (D F : List Ent) : flat (D ++ F) = flat D ++ flat F := by simp [flat]
theorem flat_len (D : List Ent) : (flat D).length = D.length * 3 := by
  induction D with
  | nil => rfl
  | cons e r ih =>
    have : flat (e :: r) = e.cs ++ flat r := rfl
    rw [this, List.length_append, ih]
    simp [Ent.cs]
    omega
theorem flat_one' (D : List Ent) : ∀ u ∈ flat D, u.oneCell' = true := fun u hu => by
  simp only [flat, List.mem_flatMap] at hu
  obtain ⟨e, _, hu⟩ := hu
  simp [Ent.cs] at hu
  rcases hu with rfl | rfl | rfl <;> rfl
theorem flat_get : ∀ (D : List Ent) (i : Nat), i < D.length → (flat D)[i * 3]? = some (.int .i64 D[i]!.t) ∧ (flat D)[i * 3 + 1]? = some (.int .u32 D[i]!.k) ∧ (flat D)[i * 3 + 2]? = some (.int .u64 D[i]!.z)
  | [], i, h => by simp at h
  | e :: r, 0, _ => ⟨rfl, rfl, rfl⟩
  | e :: r, i + 1, h => by
    have hr := flat_get r i (by simpa using h)
    have e3 : flat (e :: r) = .int .i64 e.t :: .int .u32 e.k :: .int .u64 e.z :: flat r := rfl
    have e4 : (e :: r)[i + 1]! = r[i]! := by simp
    rw [e3, e4, show (i + 1) * 3 = i * 3 + 3 by omega, show i * 3 + 3 + 1 = i * 3 + 1 + 3 by omega, show i * 3 + 3 + 2 = i * 3 + 2 + 3 by omega]
    exact hr
/-- An entry's three cells. -/
theorem Lies.ent {w : World} {g o : Nat} {D : List Ent} (h : Lies w g o (flat D)) {i : Nat} (hi : i < D.length) :
    w.cell? ⟨g, o + i * 3, none⟩ = some (.int .i64 D[i]!.t) ∧ w.cell? ⟨g, o + i * 3 + 1, none⟩ = some (.int .u32 D[i]!.k) ∧ w.cell? ⟨g, o + i * 3 + 2, none⟩ = some (.int .u64 D[i]!.z) := by
  obtain ⟨h0, h1, h2⟩ := flat_get D i hi
  exact ⟨h _ _ h0, by have := h _ _ h1; rwa [← Nat.add_assoc] at this, by have := h _ _ h2; rwa [← Nat.add_assoc] at this⟩
theorem Rd.ent {w : World} {base : Nat} {A : Option Addr} {D : List Ent} (h : Rd w base A (flat D)) {i : Nat} (hi : i < D.length) : ∃ g o, A = some ⟨g, o, none⟩ ∧ g < base ∧
    w.cell? ⟨g, o + i * 3, none⟩ = some (.int .i64 D[i]!.t) ∧ w.cell? ⟨g, o + i * 3 + 1, none⟩ = some (.int .u32 D[i]!.k) ∧ w.cell? ⟨g, o + i * 3 + 2, none⟩ = some (.int .u64 D[i]!.z) := by
  obtain ⟨g, o, e, hg, hl⟩ := h (by rw [flat_len]; omega)
  obtain ⟨h0, h1, h2⟩ := hl.ent hi
  exact ⟨g, o, e, hg, h0, h1, h2⟩
/-- A list that is read, whose cells are known to stand where they do. -/
theorem Rd.more_ent {w : World} {base : Nat} {A : Option Addr} {D : List Ent} (h : Rd w base A (flat D)) (hp : 0 < D.length) : ∃ g o, A = some ⟨g, o, none⟩ ∧ g < base ∧ Lies w g o (flat D) := h (by rw [flat_len]; omega)
theorem eqlE (d e : Ent) (w : World) : (binOp .eql 65 (ag d) (ag e)).run Try.prog w = .ok (.bool (decide (d = e))) w := by
  obtain ⟨t, k, z⟩ := d; obtain ⟨t', k', z'⟩ := e
  simp [go_sem, Try.underlying65]
  by_cases h1 : t = t' <;> by_cases h2 : k = k' <;> by_cases h3 : z = z' <;> simp [h1, h2, h3]
theorem neqE (d e : Ent) (w : World) : (binOp .neq 65 (ag d) (ag e)).run Try.prog w = .ok (.bool (!decide (d = e))) w := by
  obtain ⟨t, k, z⟩ := d; obtain ⟨t', k', z'⟩ := e
  simp [go_sem, Try.underlying65]
  by_cases h1 : t = t' <;> by_cases h2 : k = k' <;> by_cases h3 : z = z' <;> simp [h1, h2, h3]
theorem neqO (d e : Ent) (w : World) : (binOp .neq 95 (ag d) (ag e)).run Try.prog w = .ok (.bool (!decide (d = e))) w := by
  obtain ⟨t, k, z⟩ := d; obtain ⟨t', k', z'⟩ := e
  simp [go_sem, Try.underlying95]
  by_cases h1 : t = t' <;> by_cases h2 : k = k' <;> by_cases h3 : z = z' <;> simp [h1, h2, h3]
end Go.Proofs.Ytcdoklgjicfkmaa
