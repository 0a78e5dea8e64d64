/- Texts of this seat, one behind the other. -/
import Derived.Test.YtieiiabbeglmfaaGreatDoorMLawOldest203
import Derived.Deep.RegionHeld
import Derived.RegionTactic
import Derived.Deep.CutRange
import Derived.Deep.LoopGhost
import Derived.Deep.RegionLaw
import Derived.Deep.DrawnRows
import Derived.Deep.QuietTactic
import Derived.BigQuiet
import Derived.Laws.StructEq
import Derived.Shelf.Abstract
import Derived.Lib.SliceRun
set_option linter.unusedVariables false
set_option linter.unusedSimpArgs false
set_option linter.unusedVariables false
set_option linter.unusedSimpArgs false
namespace Go.Proofs.YtieiiabbeglmfaaGreatDoor.S11
set_option maxRecDepth 100000
set_option maxHeartbeats 16000000
open Go.Proofs.YtieiiabbeglmfaaGreatDoor
open Go.RowKit
section
variable {w : World} {S E sz bt : Nat} {z : Value}
theorem wp_append_row (L : Lay S E sz bt z) {o : Oper} {a : Act} {K : Act → World → Prop} {Q : Exit → Act → World → Prop} (s x : Operand)
    (ho : o.op = .call { callee := .builtin .append, args := #[s, x], argTypes := #[S, S] }) {base n : Nat} {v : Value} {cs : List Value} (hs : a.eval s = v) (h : Row w base sz v n cs) (h1c : ∀ u ∈ cs, u.oneCell' = true) (hbase : base ≤ w.heap.size)
    {b2 : Nat} {A : Option Addr} {m : Nat} {es : List Value} (c : Nat) (hx : a.eval x = .slice A m c) (hr : Rd w b2 A es) (hm : es.length = m * sz) (h1e : ∀ u ∈ es, u.oneCell' = true) (hlen : n + m ≤ 3000000)
    (hK : ∀ v' w', Row w' base sz v' (n + m) (cs ++ es) → Turns (fun k => v.ownBlock = some k) w w' → (v'.ownBlock = v.ownBlock ∨ v'.ownBlock = some w.heap.size) → K (a.put o.dst v') w') : o.wp Tryz.prog a w K Q := by
  obtain ⟨v', w', hrun, h2, h3, h4⟩ := row_append L h h1c hbase c hr hm h1e hlen o.type
  unfold Oper.wp execOp
  simp only [ho, resolve, invoke, builtin, Sem.run_bind, Sem.run_pure, Result.andThen_ok, List.map_toArray, List.map_cons, List.map_nil, hs, hx, hrun]
  exact hK v' w' h2 h3 h4
theorem step_append_row (L : Lay S E sz bt z) {ops : Array Oper} {o : Oper} {a : Act} {K : Act → World → Prop} {Q : Exit → Act → World → Prop} {F : Prop} (hgd : o.guard = none) (s x : Operand)
    (ho : o.op = .call { callee := .builtin .append, args := #[s, x], argTypes := #[S, S] }) {base n : Nat} {v : Value} {cs : List Value} (hs : a.eval s = v) (h : Row w base sz v n cs) (h1c : ∀ u ∈ cs, u.oneCell' = true) (hbase : base ≤ w.heap.size)
    {b2 : Nat} {A : Option Addr} {m : Nat} {es : List Value} (c : Nat) (hx : a.eval x = .slice A m c) (hr : Rd w b2 A es) (hm : es.length = m * sz) (h1e : ∀ u ∈ es, u.oneCell' = true) (hlen : n + m ≤ 3000000)
    (hK : ∀ v' w', Row w' base sz v' (n + m) (cs ++ es) → Turns (fun k => v.ownBlock = some k) w w' → (v'.ownBlock = v.ownBlock ∨ v'.ownBlock = some w.heap.size) → K (a.put o.dst v') w') :
    if Region.wanted o (yielded ops a.tmps) = true then Oper.wp Tryz.prog o a w K Q else F := by
  have hw : Region.wanted o (yielded ops a.tmps) = true := by simp [Region.wanted, hgd]
  rw [if_pos hw]
  exact wp_append_row L s x ho hs h h1c hbase c hx hr hm h1e hlen hK
end
theorem info_of {E sz bt : Nat} {z : Value} (h : (Tryz.prog.info? E).map (fun i => (i.zero, i.size, i.bytes)) = some (some z, sz, bt)) : ∃ i, Tryz.prog.info? E = some i ∧ i.zero = some z ∧ i.size = sz ∧ i.bytes = bt := by
  cases e : Tryz.prog.info? E with
  | none => rw [e] at h; cases h
  | some i =>
    rw [e] at h
    simp at h
    exact ⟨i, rfl, h.1, h.2.1, h.2.2⟩
structure Nt where
  s : Int
  t : Int
  k : Nat
  a : Int
  o : Int
  b : Int
  v : Int
deriving DecidableEq
instance : Inhabited Nt := ⟨⟨0, 0, 0, 0, 0, 0, 0⟩⟩
def Nt.cs (K : IntKind) (e : Nt) : List Value := [.int .i64 e.s, .int .i64 e.t, .int K (e.k : Int), .int .u32 e.a, .int .i64 e.o, .int .u32 e.b, .int .u64 e.v]
abbrev ag (K : IntKind) (e : Nt) : Value := .agg #[.int .i64 e.s, .int .i64 e.t, .int K (e.k : Int), .int .u32 e.a, .int .i64 e.o, .int .u32 e.b, .int .u64 e.v]
theorem layP : Lay 165 289 7 48 (.agg #[.int .i64 0, .int .i64 0, .int .u8 0, .int .u32 0, .int .i64 0, .int .u32 0, .int .u64 0]) := ⟨Tryz.underlying165, info_of (by kernel_rfl), rfl, by decide, by decide⟩
def flat (K : IntKind) (D : List Nt) : List Value := D.flatMap (Nt.cs K)
section
variable (K : IntKind)
theorem flat_one (e : Nt) : flat K [e] = [.int .i64 e.s, .int .i64 e.t, .int K (e.k : Int), .int .u32 e.a, .int .i64 e.o, .int .u32 e.b, .int .u64 e.v] := rfl
theorem flat_app (D F : List Nt) : flat K (D ++ F) = flat K D ++ flat K F := by simp [flat]
theorem flat_len (D : List Nt) : (flat K D).length = D.length * 7 := by
  induction D with
  | nil => rfl
  | cons e r ih =>
    have : flat K (e :: r) = e.cs K ++ flat K r := rfl
    rw [this, List.length_append, ih]
    simp [Nt.cs]
    omega
theorem flat_one' (D : List Nt) : ∀ u ∈ flat K D, u.oneCell' = true := fun u hu => by
  simp only [flat, List.mem_flatMap] at hu
  obtain ⟨e, _, hu⟩ := hu
  simp [Nt.cs] at hu
  rcases hu with rfl | rfl | rfl | rfl | rfl | rfl | rfl <;> rfl
theorem flat_drop : ∀ (D : List Nt) (i : Nat), (flat K D).drop (i * 7) = flat K (D.drop i)
  | D, 0 => by simp
  | [], i + 1 => by simp [flat]
  | e :: r, i + 1 => by
    have h := flat_drop r i
    have e3 : flat K (e :: r) = e.cs K ++ flat K r := rfl
    rw [e3, show (i + 1) * 7 = (e.cs K).length + i * 7 by simp [Nt.cs]; omega, List.drop_append, Nat.add_sub_cancel_left, h, List.drop_eq_nil_of_le (Nat.le_add_right _ _)]
    simp
theorem flat_get (D : List Nt) (i : Nat) (hi : i < D.length) (j : Nat) (hj : j < 7) : (flat K D)[i * 7 + j]? = (D[i]!.cs K)[j]? := by
  rw [← List.getElem?_drop, flat_drop]
  have : D.drop i = D[i]! :: D.drop (i + 1) := by
    rw [List.drop_eq_getElem_cons hi]; simp [hi]
  rw [this]
  have e3 : flat K (D[i]! :: D.drop (i + 1)) = D[i]!.cs K ++ flat K (D.drop (i + 1)) := rfl
  rw [e3, List.getElem?_append_left (by simp [Nt.cs]; omega)]
end
structure NtAt (w : World) (K : IntKind) (g o : Nat) (e : Nt) : Prop where
  c0 : w.cell? ⟨g, o, none⟩ = some (.int .i64 e.s)
  c1 : w.cell? ⟨g, o + 1, none⟩ = some (.int .i64 e.t)
  c2 : w.cell? ⟨g, o + 2, none⟩ = some (.int K (e.k : Int))
  c3 : w.cell? ⟨g, o + 3, none⟩ = some (.int .u32 e.a)
  c4 : w.cell? ⟨g, o + 4, none⟩ = some (.int .i64 e.o)
  c5 : w.cell? ⟨g, o + 5, none⟩ = some (.int .u32 e.b)
  c6 : w.cell? ⟨g, o + 6, none⟩ = some (.int .u64 e.v)
theorem Lies.note {w : World} {K : IntKind} {g o : Nat} {D : List Nt} (h : Lies w g o (flat K D)) {i : Nat} (hi : i < D.length) : NtAt w K g (o + i * 7) D[i]! := by
  have hx : ∀ j u, (D[i]!.cs K)[j]? = some u → w.cell? ⟨g, o + i * 7 + j, none⟩ = some u := fun j u hu => by
    have hj : j < 7 := (List.getElem?_eq_some_iff.1 hu).1
    have := h (i * 7 + j) u ((flat_get K D i hi j hj).trans hu)
    rwa [← Nat.add_assoc] at this
  exact ⟨hx 0 _ rfl, hx 1 _ rfl, hx 2 _ rfl, hx 3 _ rfl, hx 4 _ rfl, hx 5 _ rfl, hx 6 _ rfl⟩
theorem Rd.note {w : World} {K : IntKind} {base : Nat} {A : Option Addr} {D : List Nt} (h : Rd w base A (flat K D)) {i : Nat} (hi : i < D.length) : ∃ g o, A = some ⟨g, o, none⟩ ∧ g < base ∧ NtAt w K g (o + i * 7) D[i]! := by
  obtain ⟨g, o, e, hg, hl⟩ := h (by rw [flat_len]; omega)
  exact ⟨g, o, e, hg, hl.note hi⟩
end Go.Proofs.YtieiiabbeglmfaaGreatDoor.S11
namespace Go.Proofs.YtieiiabbeglmfaaGreatDoor.S11
set_option maxRecDepth 100000
set_option maxHeartbeats 16000000
open Go.Proofs.YtieiiabbeglmfaaGreatDoor
open Go.RowKit
def nmL : List ByteArray := [⟨#[]⟩, ⟨#[112, 97, 114, 107]⟩, ⟨#[116, 97, 107, 101]⟩, ⟨#[112, 105, 99, 107]⟩, ⟨#[109, 111, 118, 101]⟩, ⟨#[103, 111, 110, 101]⟩, ⟨#[]⟩, ⟨#[]⟩, ⟨#[]⟩, ⟨#[]⟩, ⟨#[]⟩, ⟨#[]⟩, ⟨#[]⟩, ⟨#[]⟩, ⟨#[]⟩, ⟨#[]⟩, ⟨#[108, 111, 99, 107]⟩, ⟨#[102, 114, 101, 101]⟩, ⟨#[104, 97, 110, 100]⟩, ⟨#[98, 117, 115, 121]⟩, ⟨#[108, 97, 116, 101]⟩, ⟨#[114, 101, 97, 100]⟩, ⟨#[117, 112, 103, 114]⟩, ⟨#[99, 108, 97, 105, 109]⟩, ⟨#[119, 114, 105, 116, 101]⟩, ⟨#[117, 110, 114, 101, 97, 100]⟩, ⟨#[117, 110, 117, 112, 103, 114]⟩, ⟨#[117, 110, 99, 108, 97, 105, 109]⟩, ⟨#[117, 110, 119, 114, 105, 116, 101]⟩, ⟨#[119, 97, 105, 116]⟩, ⟨#[119, 97, 107, 101]⟩, ⟨#[103, 105, 118, 101]⟩, ⟨#[110, 111, 98, 111, 100, 121]⟩, ⟨#[98, 101, 103, 105, 110]⟩, ⟨#[101, 110, 100]⟩, ⟨#[102, 97, 105, 108]⟩, ⟨#[100, 111, 110, 101]⟩, ⟨#[115, 105, 99, 107]⟩]
def nmS (k : Nat) : ByteArray := nmL.getD k ⟨#[]⟩
def isK (k : Nat) : Bool := (decide (1 ≤ k) && decide (k ≤ 5)) || (decide (16 ≤ k) && decide (k ≤ 37))
theorem nmS_far {k : Nat} (h : 38 ≤ k) : nmS k = ⟨#[]⟩ := by
  unfold nmS
  rw [List.getD_eq_getElem?_getD, List.getElem?_eq_none (by exact h)]; rfl
theorem all38 {p : Nat → Bool} (h : (List.range 38).all p = true) {k : Nat} (hk : k < 38) : p k = true := List.all_eq_true.1 h k (List.mem_range.2 hk)
theorem isK_iff (k : Nat) : (nmS k = ⟨#[]⟩) ↔ isK k = false := by
  by_cases hk : k < 38
  · have := all38 (p := fun k => decide ((nmS k = ⟨#[]⟩) ↔ isK k = false)) (by decide +kernel) hk
    exact of_decide_eq_true this
  · rw [nmS_far (by omega)]
    simp [isK]; omega
theorem bt (x : ByteArray) : x.toList.isEmpty = decide (x = ⟨#[]⟩) := by
  rcases x with ⟨a⟩
  by_cases h : a = #[]
  · subst h; decide +kernel
  · have : ¬ (⟨a⟩ : ByteArray) = ⟨#[]⟩ := fun e => h (by injection e)
    rw [ByteArray.toList_eq, decide_eq_false this]
    cases a with | mk l => cases l with
      | nil => exact absurd rfl h
      | cons _ _ => rfl
def Tab (w : World) : Prop := 0 < w.heap.size ∧ ∀ k, k < 38 → w.cell? ⟨0, k, none⟩ = some (.string (nmS k))
theorem Tab.below {w w' : World} {b : Nat} (h : Tab w) (hb : Below b w w') (h0 : 0 < b) : Tab w' :=
  ⟨by have := hb.size; have := h.1; omega, fun k hk => (hb.cell (p := ⟨0, k, none⟩) h0).trans (h.2 k hk)⟩
theorem Tab.kept {S : Nat → Prop} {w w' : World} (h : Tab w) (t : Turns S w w') (h0 : ¬ S 0) : Tab w' :=
  ⟨Nat.lt_of_lt_of_le h.1 t.size, fun k hk => (t.cell h.1 h0).trans (h.2 k hk)⟩
theorem Tab.drew {w : World} (h : Tab w) : Tab w.drew := h
theorem name_any (k : Nat) (hk : k < 256) (w : World) (h : Tab w) : Calls Tryz.prog 256 #[.int .u8 (k : Int)] w fun e w' => e = .returned (.string (nmS k)) ∧ w = w' := by
  have hwr : IntKind.i64.wrap (k : Int) = k := by rw [IntKind.wrap_i64]; omega
  by_cases hlt : k < 38
  · have c0 := h.2 k hlt
    clear h
    have h38 : ¬ (38 : Int) ≤ (k : Int) := by omega
    generalize nmS k = x at *
    go_enter Tryz.func256, Tryz.ntmps256
    go_wp2
    go_ret
    exact ⟨rfl, rfl⟩
  · rw [nmS_far (by omega)]
    have h38 : (38 : Int) ≤ (k : Int) := by omega
    go_enter Tryz.func256, Tryz.ntmps256
    go_wp2
    go_ret
    exact ⟨rfl, rfl⟩
theorem isKind_any (k : Nat) (hk : k < 256) (w : World) (h : Tab w) : Calls Tryz.prog 241 #[.int .u8 (k : Int)] w fun e w' => e = .returned (.bool (isK k)) ∧ w = w' := by
  have hq := name_any k hk w h
  have hi := isK_iff k
  generalize nmS k = x at *
  clear h
  cases hb : isK k <;> rw [hb] at hi
  · obtain rfl : x = ⟨#[]⟩ := hi.2 rfl
    clear hi
    go_enter Tryz.func241, Tryz.ntmps241
    go_wp2_with (go_at_call 256; refine hq.mono ?_; rintro e w' ⟨rfl, rfl⟩)
    go_ret
    exact ⟨rfl, rfl⟩
  · have hne : ¬ x = ⟨#[]⟩ := fun e => by have := hi.1 e; cases this
    clear hi
    go_enter Tryz.func241, Tryz.ntmps241
    go_wp2_with (go_at_call 256; refine hq.mono ?_; rintro e w' ⟨rfl, rfl⟩)
    go_ret
    exact ⟨by rw [bt, decide_eq_false hne]; rfl, rfl⟩
end Go.Proofs.YtieiiabbeglmfaaGreatDoor.S11
