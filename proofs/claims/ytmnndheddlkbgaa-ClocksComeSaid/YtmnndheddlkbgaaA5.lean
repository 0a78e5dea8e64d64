/- More draws behind, in a walk; a new clock. -/
import Derived.Test.YtmnndheddlkbgaaA4
import Derived.Deep.RegionHeld
import Derived.RegionTactic
import Derived.Deep.CutRange
import Derived.Deep.LoopGhost
import Derived.Deep.RegionLaw
import Derived.Deep.DrawnRows
namespace Go.Proofs.Ytmnndheddlkbgaa
open Go.RowKit

section
variable {P : Program} {w : World}
theorem wp_append_row {o : Oper} {a : Act} {K : Act → World → Prop} {Q : Exit → Act → World → Prop} (s x : Operand)
    (ho : o.op = .call { callee := .builtin .append, args := #[s, x], argTypes := #[22, 22] }) {base : Nat} {v : Value} {D : List Nat} (hs : a.eval s = v) (h : Row w base v D) (hbase : base ≤ w.heap.size)
    {b2 : Nat} {A : Option Addr} {n : Nat} {E : List Nat} (c : Nat) (hx : a.eval x = .slice A n c) (hn : n = E.length) (hr : Rd w b2 A E) (hlen : D.length + E.length ≤ 1000000)
    (hK : ∀ v' w', Row w' base v' (D ++ E) → Turns (fun k => v.ownBlock = some k) w w' → (v'.ownBlock = v.ownBlock ∨ v'.ownBlock = some w.heap.size) → K (a.put o.dst v') w') : o.wp Try.prog a w K Q := by
  subst hn
  obtain ⟨v', w', hrun, h2, h3, h4⟩ := row_append h hbase c hr hlen o.type
  unfold Oper.wp execOp
  simp only [ho, resolve, invoke, builtin, Sem.run_bind, Sem.run_pure, Result.andThen_ok, List.map_toArray, List.map_cons, List.map_nil, hs, hx, hrun]
  exact hK v' w' h2 h3 h4
theorem wpList_append_row {ops : Array Oper} {rest : List Oper} {o : Oper} {a : Act} {Q : Exit → Act → World → Prop} (hgd : o.guard = none) (s x : Operand)
    (ho : o.op = .call { callee := .builtin .append, args := #[s, x], argTypes := #[22, 22] }) {base : Nat} {v : Value} {D : List Nat} (hs : a.eval s = v) (h : Row w base v D) (hbase : base ≤ w.heap.size)
    {b2 : Nat} {A : Option Addr} {n : Nat} {E : List Nat} (c : Nat) (hx : a.eval x = .slice A n c) (hn : n = E.length) (hr : Rd w b2 A E) (hlen : D.length + E.length ≤ 1000000)
    (hK : ∀ v' w', Row w' base v' (D ++ E) → Turns (fun k => v.ownBlock = some k) w w' → (v'.ownBlock = v.ownBlock ∨ v'.ownBlock = some w.heap.size) → wpList Try.prog ops Q rest (a.put o.dst v') w') : wpList Try.prog ops Q (o :: rest) a w :=
  wpList_plain hgd fun _ hK' => wp_append_row s x ho hs h hbase c hx hn hr hlen fun v' w' h2 h3 h4 => hK' _ _ (hK v' w' h2 h3 h4)
theorem step_append_row {ops : Array Oper} {o : Oper} {a : Act} {K : Act → World → Prop} {Q : Exit → Act → World → Prop} {F : Prop} (hgd : o.guard = none) (s x : Operand)
    (ho : o.op = .call { callee := .builtin .append, args := #[s, x], argTypes := #[22, 22] }) {base : Nat} {v : Value} {D : List Nat} (hs : a.eval s = v) (h : Row w base v D) (hbase : base ≤ w.heap.size)
    {b2 : Nat} {A : Option Addr} {n : Nat} {E : List Nat} (c : Nat) (hx : a.eval x = .slice A n c) (hn : n = E.length) (hr : Rd w b2 A E) (hlen : D.length + E.length ≤ 1000000)
    (hK : ∀ v' w', Row w' base v' (D ++ E) → Turns (fun k => v.ownBlock = some k) w w' → (v'.ownBlock = v.ownBlock ∨ v'.ownBlock = some w.heap.size) → K (a.put o.dst v') w') :
    if Region.wanted o (yielded ops a.tmps) = true then Oper.wp Try.prog o a w K Q else F := by
  have hw : Region.wanted o (yielded ops a.tmps) = true := by simp [Region.wanted, hgd]
  rw [if_pos hw]
  exact wp_append_row s x ho hs h hbase c hx hn hr hlen hK
end
theorem more_nil (w : World) (A : Option Addr) (n c : Nat) : Calls Try.prog 14 #[.pointer none, .slice A n c] w fun e w' => e = .returned (.tuple #[]) ∧ w = w' := by
  go_enter Try.func14, Try.ntmps14
  go_wp2_with fail
  (try simp only [Exit.inBlock, Exit.then]); refine bodyPost_ret (results_none rfl _ _ _) rfl ?_
  exact ⟨rfl, rfl⟩
theorem Row.shape {w : World} {base : Nat} {s : Value} {D : List Nat} (h : Row w base s D) : ∃ A cap, s = .slice A D.length cap := let ⟨A, cap, e, _⟩ := h; ⟨A, cap, e⟩
/-- What a clock is behind a call that turned it. -/
def Leaves (w w' : World) (base B T most : Nat) (s : Value) (D : List Nat) : Prop := ∃ s', ClockAt w' base B T most s' D ∧ (s'.ownBlock = s.ownBlock ∨ s'.ownBlock = some w.heap.size) ∧ Turns (fun k => k = B ∨ s.ownBlock = some k) w w'
theorem Nums.more {T most : Nat} {D E : List Nat} (h : Nums T most D) (hE : ∀ d ∈ E, d ≤ 18446744073709551615) : Nums T most (D ++ E.take (65536 - D.length)) := by
  have := h.len
  refine ⟨h.t, h.m, by rw [List.length_append, List.length_take]; omega, fun d hd => ?_⟩
  rcases List.mem_append.1 hd with hd | hd
  · exact h.all d hd
  · exact hE d (List.mem_of_mem_take hd)
theorem leaves_more {w w3 : World} {base B T most : Nat} {s s3 : Value} {D F : List Nat} (h : ClockAt w base B T most s D) (hN : Nums T most F) (hr3 : Row w3 base s3 F) (ht3 : Turns (fun k => s.ownBlock = some k) w.drew w3) (ho3 : s3.ownBlock = s.ownBlock ∨ s3.ownBlock = some w.drew.heap.size) :
    Leaves w (w3.setCell ⟨B, 2, none⟩ s3) base B T most s F := by
  have t0 : Turns (fun k => s.ownBlock = some k) w w3 := ⟨ht3.os, ht3.tape, ht3.output, ht3.size, ht3.block⟩
  have t1 : Turns (fun k => k = B) w3 (w3.setCell ⟨B, 2, none⟩ s3) := (Turns.refl _ _).setCell _ _ rfl
  have hne3 : s3.ownBlock ≠ some B := by
    rcases ho3 with e | e
    · rw [e]; exact h.ne
    · rw [e]
      intro e'
      have e2 : w.drew.heap.size = B := by injection e'
      have := h.lt
      rw [show w.drew.heap.size = w.heap.size from rfl] at e2
      omega
  refine ⟨s3, ⟨hN, ?_, hr3.keep t1 (fun g hg e => hne3 (by rw [hg, e])), hne3⟩, ho3, (t0.mono (fun k _ e => .inr e)).trans t1 (fun k _ e => .inl e)⟩
  exact row_set (((t0.block B h.lt h.ne)).trans h.row) 2 _
attribute [local go_sem ↓] Go.wp_at_zero Go.wp_at_succ
set_option maxHeartbeats 4000000 in
theorem more_any {w : World} {base B T most : Nat} {s : Value} {D : List Nat} (h : ClockAt w base B T most s D) (hbase : base ≤ w.heap.size) {b2 : Nat} {A : Option Addr} {E : List Nat} (c : Nat) (hn : E.length ≤ c) (hc : c ≤ 9223372036854775807) (hr : Rd w b2 A E) (hE : ∀ d ∈ E, d ≤ 18446744073709551615) :
    Calls Try.prog 14 #[Pt B, .slice A E.length c] w fun e w' => e = .returned (.tuple #[]) ∧ Leaves w w' base B T most s (D ++ E.take (65536 - D.length)) := by
  have c2 : w.cell? ⟨B, 2, none⟩ = some s := cell_row h.row 2
  have f2 : w.frozen? ⟨B, 2, none⟩ = false := froz_row h.row 2
  have hlen := h.nums.len
  have hlt := h.lt
  have hne : ¬ s.ownBlock = some B := h.ne
  have hfi := fun W => first_any A E.length c (65536 - D.length) hn hc (by omega) W
  rw [show ((65536 - D.length : Nat) : Int) = 65536 - (D.length : Int) by omega] at hfi
  have hwr : IntKind.i64.wrap (65536 - (D.length : Int)) = 65536 - (D.length : Int) := by rw [IntKind.wrap_i64]; omega
  have hmin : min E.length (65536 - D.length) = (E.take (65536 - D.length)).length := by rw [List.length_take, Nat.min_comm]
  have hl2 : D.length + (E.take (65536 - D.length)).length ≤ 1000000 := by rw [← hmin]; omega
  have hrd := hr.take (65536 - D.length)
  have hN := h.nums.more hE
  have hrow := h.own
  obtain ⟨F, hF⟩ : ∃ F, F = D ++ E.take (65536 - D.length) := ⟨_, rfl⟩
  rw [← hF] at hN ⊢
  obtain ⟨A0, cap, hs⟩ := h.own.shape
  subst hs
  have hfin := fun s3 w3 => leaves_more (s3 := s3) (w3 := w3) h hN
  have HFIN := Lib.hid hfin
  clear hfin
  have H := Lib.hid h; have HFI := Lib.hid hfi; have HMIN := Lib.hid hmin; have HLEN := Lib.hid hl2; have HRD := Lib.hid hrd; have HF := Lib.hid hF; have HN := Lib.hid hN; have HROW := Lib.hid hrow; have HNE := Lib.hid hne; have HBS := Lib.hid hbase
  clear h hfi hmin hl2 hrd hF hN hrow hne hr hE hbase
  go_enter Try.func14, Try.ntmps14
  go_upto_region 1 with (fail)
  go_region_law (first
    | ((refine step_append_row (v := .slice A0 D.length cap) rfl _ _ rfl (by rfl) HROW.out.drew HBS.out _ rfl HMIN.out HRD.out.drew HLEN.out ?_; intro v3 w3 hr3 ht3 ho3; rw [← HF.out] at hr3; obtain ⟨A3, cap3, hv3⟩ := hr3.shape; subst hv3; (have c3 : w3.cell? ⟨B, 2, none⟩ = some (.slice A0 D.length cap) := (ht3.cell hlt HNE.out).trans c2); (have f3 : w3.frozen? ⟨B, 2, none⟩ = false := (ht3.frozen hlt HNE.out).trans f2)))
    | (go_simp; refine (HFI.out _).mono ?_; rintro e w1 ⟨rfl, rfl⟩))
  all_goals
    go_end0
    exact ⟨rfl, HFIN.out _ _ hr3 ht3 ho3⟩
end Go.Proofs.Ytmnndheddlkbgaa
