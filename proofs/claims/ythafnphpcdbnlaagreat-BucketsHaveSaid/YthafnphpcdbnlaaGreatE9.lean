/- Texts of this seat, one behind the other. -/
import Derived.Test.YthafnphpcdbnlaaGreatE8
import Derived.Deep.RegionHeld
import Derived.RegionTactic
import Derived.Deep.CutRange
import Derived.Deep.LoopGhost
import Derived.Deep.RegionLaw
import Derived.Deep.DrawnRows
set_option linter.unusedVariables false
set_option linter.unusedSimpArgs false
namespace Go.Proofs.YthafnphpcdbnlaaGreat.S3
open Go.Proofs.YthafnphpcdbnlaaGreat
open Go.RowKit

section
variable {P : Program} {w : World}
theorem wp_append_row {o : Oper} {a : Act} {K : Act → World → Prop} {Q : Exit → Act → World → Prop} (s x : Operand)
    (ho : o.op = .call { callee := .builtin .append, args := #[s, x], argTypes := #[58, 58] }) {base : Nat} {v : Value} {D : List Nat} (hs : a.eval s = v) (h : Row w base v D) (hbase : base ≤ w.heap.size)
    {b2 : Nat} {A : Option Addr} {n : Nat} {E : List Nat} (c : Nat) (hx : a.eval x = .slice A n c) (hn : n = E.length) (hr : Rd w b2 A E) (hlen : D.length + E.length ≤ 3000000)
    (hK : ∀ v' w', Row w' base v' (D ++ E) → Turns (fun k => v.ownBlock = some k) w w' → (v'.ownBlock = v.ownBlock ∨ v'.ownBlock = some w.heap.size) → K (a.put o.dst v') w') : o.wp Tryz.prog a w K Q := by
  subst hn
  obtain ⟨v', w', hrun, h2, h3, h4⟩ := row_append h hbase c hr hlen o.type
  unfold Oper.wp execOp
  simp only [ho, resolve, invoke, builtin, Sem.run_bind, Sem.run_pure, Result.andThen_ok, List.map_toArray, List.map_cons, List.map_nil, hs, hx, hrun]
  exact hK v' w' h2 h3 h4
theorem wpList_append_row {ops : Array Oper} {rest : List Oper} {o : Oper} {a : Act} {Q : Exit → Act → World → Prop} (hgd : o.guard = none) (s x : Operand)
    (ho : o.op = .call { callee := .builtin .append, args := #[s, x], argTypes := #[58, 58] }) {base : Nat} {v : Value} {D : List Nat} (hs : a.eval s = v) (h : Row w base v D) (hbase : base ≤ w.heap.size)
    {b2 : Nat} {A : Option Addr} {n : Nat} {E : List Nat} (c : Nat) (hx : a.eval x = .slice A n c) (hn : n = E.length) (hr : Rd w b2 A E) (hlen : D.length + E.length ≤ 3000000)
    (hK : ∀ v' w', Row w' base v' (D ++ E) → Turns (fun k => v.ownBlock = some k) w w' → (v'.ownBlock = v.ownBlock ∨ v'.ownBlock = some w.heap.size) → wpList Tryz.prog ops Q rest (a.put o.dst v') w') : wpList Tryz.prog ops Q (o :: rest) a w :=
  wpList_plain hgd fun _ hK' => wp_append_row s x ho hs h hbase c hx hn hr hlen fun v' w' h2 h3 h4 => hK' _ _ (hK v' w' h2 h3 h4)
theorem step_append_row {ops : Array Oper} {o : Oper} {a : Act} {K : Act → World → Prop} {Q : Exit → Act → World → Prop} {F : Prop} (hgd : o.guard = none) (s x : Operand)
    (ho : o.op = .call { callee := .builtin .append, args := #[s, x], argTypes := #[58, 58] }) {base : Nat} {v : Value} {D : List Nat} (hs : a.eval s = v) (h : Row w base v D) (hbase : base ≤ w.heap.size)
    {b2 : Nat} {A : Option Addr} {n : Nat} {E : List Nat} (c : Nat) (hx : a.eval x = .slice A n c) (hn : n = E.length) (hr : Rd w b2 A E) (hlen : D.length + E.length ≤ 3000000)
    (hK : ∀ v' w', Row w' base v' (D ++ E) → Turns (fun k => v.ownBlock = some k) w w' → (v'.ownBlock = v.ownBlock ∨ v'.ownBlock = some w.heap.size) → K (a.put o.dst v') w') :
    if Region.wanted o (yielded ops a.tmps) = true then Oper.wp Tryz.prog o a w K Q else F := by
  have hw : Region.wanted o (yielded ops a.tmps) = true := by simp [Region.wanted, hgd]
  rw [if_pos hw]
  exact wp_append_row s x ho hs h hbase c hx hn hr hlen hK
end
theorem Row.shape {w : World} {base : Nat} {s : Value} {D : List Nat} (h : Row w base s D) : ∃ A cap, s = .slice A D.length cap := let ⟨A, cap, e, _⟩ := h; ⟨A, cap, e⟩
/-- What a clock is behind a call that turned it. -/
def Leaves (w w' : World) (base B T most : Nat) (s : Value) (D : List Nat) : Prop := ∃ s', ClockAt w' base B T most s' D ∧ (s'.ownBlock = s.ownBlock ∨ s'.ownBlock = some w.heap.size) ∧ Turns (fun k => k = B ∨ s.ownBlock = some k) w w'
theorem Nums.more {T most : Nat} {D E : List Nat} (h : Nums T most D) (hE : ∀ d ∈ E, d ≤ 18446744073709551615) : Nums T most (D ++ E.take (65536 - D.length)) := by
  have := h.len
  refine ⟨h.t, h.m, by rw [List.length_append, List.length_take]; omega, fun d hd => ?_⟩
  rcases List.mem_append.1 hd with hd | hd
  · exact h.all d hd
  · exact hE d (List.mem_of_mem_take hd)
theorem leaves_more {w w3 : World} {base B T most : Nat} {s s3 : Value} {D F : List Nat} (h : ClockAt w base B T most s D) (hN : Nums T most F) (hr3 : Row w3 base s3 F) (ht3 : Turns (fun k => s.ownBlock = some k) w.drew w3) (ho3 : s3.ownBlock = s.ownBlock ∨ s3.ownBlock = some w.drew.heap.size) :
    Leaves w (w3.setCell ⟨B, 2, none⟩ s3) base B T most s F := by
  have t0 : Turns (fun k => s.ownBlock = some k) w w3 := ⟨ht3.os, ht3.tape, ht3.output, ht3.size, ht3.block⟩
  have t1 : Turns (fun k => k = B) w3 (w3.setCell ⟨B, 2, none⟩ s3) := (Turns.refl _ _).setCell _ _ rfl
  have hne3 : s3.ownBlock ≠ some B := by
    rcases ho3 with e | e
    · rw [e]; exact h.ne
    · rw [e]
      intro e'
      have e2 : w.drew.heap.size = B := by injection e'
      have := h.lt
      rw [show w.drew.heap.size = w.heap.size from rfl] at e2
      omega
  refine ⟨s3, ⟨hN, ?_, hr3.keep t1 (fun g hg e => hne3 (by rw [hg, e])), hne3⟩, ho3, (t0.mono (fun k _ e => .inr e)).trans t1 (fun k _ e => .inl e)⟩
  exact row_set (((t0.block B h.lt h.ne)).trans h.row) 2 _
attribute [local go_sem ↓] Go.wp_at_zero Go.wp_at_succ
end Go.Proofs.YthafnphpcdbnlaaGreat.S3
namespace Go.Proofs.YthafnphpcdbnlaaGreat.S3
open Go.Proofs.YthafnphpcdbnlaaGreat
open Go.RowKit

def Made (w : World) (T most : Nat) (D : List Nat) (e : Ending) (w' : World) : Prop := ∃ B s, e = .returned (Pt B) ∧ w.heap.size ≤ B ∧ ClockAt w' w.heap.size B T most s D ∧ Below w.heap.size w w'
theorem made_new {w w1 : World} {s : Value} {most : Nat} {D : List Nat} (hN : Nums 0 most D) (hr : Row w1 w.heap.size s D) (hb : Below w.heap.size w w1) : Made w 0 most D (.returned (Pt w1.heap.size)) (w1.alloc (.cells #[.int .u64 0, .int .u64 most, s] 132)) := by
  refine ⟨w1.heap.size, s, rfl, hb.size, ⟨hN, heap_alloc_new w1 _, hr.keep ((Turns.refl (fun _ => False) w1).alloc _) (fun _ _ e => e), fun e => ?_⟩, hb.alloc hb.size _⟩
  have := (hr.lt _ e).2
  omega
theorem new_any {w : World} {b2 : Nat} {A : Option Addr} {D : List Nat} (c most : Nat) (hn : D.length ≤ c) (hc : c ≤ 9223372036854775807) (hm : most ≤ 18446744073709551615) (hr : Rd w b2 A D) (hb2 : b2 ≤ w.heap.size) (hD : ∀ d ∈ D, d ≤ 18446744073709551615) :
    Calls Tryz.prog 34 #[.slice A D.length c, .int .u64 most] w (Made w 0 most (D.take 65536)) := by
  have hfi := fun W => first_any A D.length c 65536 hn hc (by omega) W
  have hcp := copied_any A c b2 (D.take 65536) (by rw [List.length_take]; omega) w (hr.take 65536) hb2
  have hmin : min D.length 65536 = (D.take 65536).length := by rw [List.length_take, Nat.min_comm]
  have hN : Nums 0 most (D.take 65536) := ⟨by omega, hm, by rw [List.length_take]; omega, fun d hd => hD d (List.mem_of_mem_take hd)⟩
  generalize D.take 65536 = E at *
  rw [hmin] at hfi
  have HFI := Lib.hid hfi; have HCP := Lib.hid hcp; have HN := Lib.hid hN
  clear hfi hcp hmin hN hr hD
  go_enter Tryz.func34, Tryz.ntmps34
  go_wp2_with (first
    | (go_at_call 49; refine (HFI.out _).mono ?_; rintro e w1 ⟨rfl, rfl⟩)
    | (go_at_call 48; refine HCP.out.mono ?_; rintro e w1 ⟨s, rfl, hr1, hb1⟩; obtain ⟨A1, cap1, hs1⟩ := hr1.shape; subst hs1))
  go_ret
  exact made_new HN.out hr1 hb1
/-- A clock whose blocks all lie from base on. -/
structure Own (w : World) (base B T most : Nat) (D : List Nat) : Prop where
  size : base ≤ w.heap.size
  from_ : base ≤ B
  own : ∃ s, ClockAt w base B T most s D
section
variable {w w' : World} {base B T most : Nat} {D : List Nat}
theorem Own.nums (h : Own w base B T most D) : Nums T most D := let ⟨_, c⟩ := h.own; c.nums
theorem Own.lt (h : Own w base B T most D) : B < w.heap.size := let ⟨_, c⟩ := h.own; c.lt
theorem Own.new (h : Own w base B T most D) (b : Below w.heap.size w w') : Own w' base B T most D :=
  let ⟨s, c⟩ := h.own; ⟨Nat.le_trans h.size b.size, h.from_, s, c.new b⟩
theorem Own.drewN (h : Own w base B T most D) (k : Nat) : Own (w.drewN k) base B T most D := h.new ⟨rfl, rfl, rfl, Nat.le_refl _, fun _ _ => rfl⟩
theorem Leaves.own {s : Value} {T' : Nat} {D' : List Nat} (h : Own w base B T most D) (c : ClockAt w base B T most s D) (l : Leaves w w' base B T' most s D') : Own w' base B T' most D' ∧ Below base w w' := by
  obtain ⟨s', c', _, t⟩ := l
  refine ⟨⟨Nat.le_trans h.size t.size, h.from_, s', c'⟩, t.below h.size (fun k hk e => ?_)⟩
  have := h.from_
  rcases e with rfl | e
  · omega
  · have := (c.own.lt k e).1; omega
theorem Made.own {w : World} {T most : Nat} {D : List Nat} {e : Ending} {w' : World} (h : Made w T most D e w') : ∃ B, e = .returned (Pt B) ∧ w.heap.size ≤ B ∧ Own w' w.heap.size B T most D ∧ Below w.heap.size w w' :=
  let ⟨B, s, he, hB, c, b⟩ := h; ⟨B, he, hB, ⟨b.size, hB, s, c⟩, b⟩
end
theorem eq31 (a b : Bool) (x y : Int) (w : World) : (binOp .eql 134 (.agg #[.bool a, .int .u64 x]) (.agg #[.bool b, .int .u64 y])).run Tryz.prog w = .ok (.bool ((a == b) && (x == y))) w := by
  simp [go_sem, Tryz.underlying134]
  by_cases h1 : a = b <;> by_cases h2 : x = y <;> simp [h1, h2]
theorem neq31 (a b : Bool) (x y : Int) (w : World) : (binOp .neq 134 (.agg #[.bool a, .int .u64 x]) (.agg #[.bool b, .int .u64 y])).run Tryz.prog w = .ok (.bool (!((a == b) && (x == y)))) w := by
  simp [go_sem, Tryz.underlying134]
  by_cases h1 : a = b <;> by_cases h2 : x = y <;> simp [h1, h2]
end Go.Proofs.YthafnphpcdbnlaaGreat.S3
