/- An Apart: New, its step. -/
import Derived.Test.YtdfokceecnmocaaS16F
import Derived.Deep.RegionLaw
set_option linter.unusedVariables false
set_option linter.unusedSimpArgs false
namespace Go.Proofs.Ytdfokceecnmocaa.S16
open Go.Proofs.Ytdfokceecnmocaa Go.Proofs.Ytdfokceecnmocaa.S11 Go.Proofs.Ytdfokceecnmocaa.S12 Go.Proofs.Ytdfokceecnmocaa.S13 Go.Proofs.Ytdfokceecnmocaa.S14 Go.Proofs.Ytdfokceecnmocaa.S15
open Go.RowKit

theorem layT : Lay 118 121 1 8 .nilFunc := ⟨by kernel_rfl, info_of (by kernel_rfl), rfl, by omega, by omega⟩
theorem append_task {w : World} {LB0 LB1 g1 g2 : Nat} {cp1 cp2 : Array Value} (c0 : w.cell? ⟨LB0, 0, none⟩ = some (.func (.func g1) #[] cp1)) (c1 : w.cell? ⟨LB1, 0, none⟩ = some (.func (.func g2) #[] cp2)) (ty : TypeId) :
    ∃ (cc : Nat) (row : Array Value), 2 ≤ cc ∧ cc < 9223372036854775808 ∧ row[0]? = some (.func (.func g1) #[] cp1) ∧ row[1]? = some (.func (.func g2) #[] cp2) ∧
      (Builtin.append_ #[118, 118] ty #[(.slice (some ⟨LB0, 0, none⟩) 1 1), (.slice (some ⟨LB1, 0, none⟩) 1 1)]).run Try.prog w = .ok (.slice (some ⟨w.heap.size, 0, none⟩) 2 cc) (w.drew.alloc (.cells row 121)) := by
  obtain ⟨i, hi, hz, hsz, hby⟩ := layT.info
  have r0 : Rd w (LB0 + 1) (some ⟨LB0, 0, none⟩) [.func (.func g1) #[] cp1] := fun _ => ⟨LB0, 0, rfl, by omega, fun j u e => by
    match j, e with
    | 0, e => simp at e; rw [← e]; exact c0⟩
  have r1 : Rd w (LB1 + 1) (some ⟨LB1, 0, none⟩) [.func (.func g2) #[] cp2] := fun _ => ⟨LB1, 0, rfl, by omega, fun j u e => by
    match j, e with
    | 0, e => simp at e; rw [← e]; exact c1⟩
  have r0d : Rd w.drew (LB0 + 1) (some ⟨LB0, 0, none⟩) [.func (.func g1) #[] cp1] := r0
  have hold := (r0d.src layT (m := 1) rfl (by intro u hu; simp at hu; subst hu; rfl) 1).cells
  have hs := r1.src layT (m := 1) rfl (by intro u hu; simp at hu; subst hu; rfl) 1
  have hold' : (Builtin.firstCells i.size 1 (.slice (some ⟨LB0, 0, none⟩) 1 1)).run Try.prog w.drew = .ok #[.func (.func g1) #[] cp1] w.drew := by rw [hsz]; exact hold
  have hs' : Src Try.prog i.size 118 (.slice (some ⟨LB1, 0, none⟩) 1 1) 1 [.func (.func g2) #[] cp2] w := by rw [hsz]; exact hs
  have hrun := run_append_grow_src (P := Try.prog) w 118 118 ty 121 i .nilFunc layT.und hi hz (some ⟨LB0, 0, none⟩) 1 1 [.func (.func g1) #[] cp1] hold' _ 1 [.func (.func g2) #[] cp2] hs' (by omega) (by omega) (growslice_fits (by omega) (by rw [hby]; omega))
  have hcm := grownCap_le_maxLen w 2 1 121 (by decide)
  have hmx : maxLen < 9223372036854775808 := by decide
  exact ⟨_, _, grownCap_ge w 2 1 121, by omega, by rw [Array.getElem?_append_left (by simp)]; rfl, by rw [Array.getElem?_append_left (by simp)]; rfl, hrun⟩
theorem wp_append_task {w : World} {LB0 LB1 g1 g2 : Nat} {cp1 cp2 : Array Value} (c0 : w.cell? ⟨LB0, 0, none⟩ = some (.func (.func g1) #[] cp1)) (c1 : w.cell? ⟨LB1, 0, none⟩ = some (.func (.func g2) #[] cp2)) {ops : Array Oper} {o : Oper} {a : Act} {K : Act → World → Prop} {Q : Exit → Act → World → Prop} {F : Prop} (hgd : o.guard = none) (s x : Operand)
    (ho : o.op = .call { callee := .builtin .append, args := #[s, x], argTypes := #[118, 118] }) (hs : a.eval s = (.slice (some ⟨LB0, 0, none⟩) 1 1)) (hx : a.eval x = (.slice (some ⟨LB1, 0, none⟩) 1 1))
    (hK : ∀ (cc : Nat) (row : Array Value), 2 ≤ cc → cc < 9223372036854775808 → row[0]? = some (.func (.func g1) #[] cp1) → row[1]? = some (.func (.func g2) #[] cp2) → K (a.put o.dst (.slice (some ⟨w.heap.size, 0, none⟩) 2 cc)) (w.drew.alloc (.cells row 121))) :
    if Region.wanted o (yielded ops a.tmps) = true then Oper.wp Try.prog o a w K Q else F := by
  have hw : Region.wanted o (yielded ops a.tmps) = true := by simp [Region.wanted, hgd]
  rw [if_pos hw]
  obtain ⟨cc, row, h1, h2, h3, h4, hrun⟩ := append_task c0 c1 o.type
  unfold Oper.wp execOp
  simp only [ho, resolve, invoke, builtin, Sem.run_bind, Sem.run_pure, Result.andThen_ok, List.map_toArray, List.map_cons, List.map_nil, hs, hx, hrun]
  exact hK cc row h1 h2 h3 h4
theorem neqQ {b1 i1 b2 i2 : Int} (h : ¬ (b1 = b2 ∧ i1 = i2)) (w : World) : (binOp .neq 39 (.agg #[.int .i64 b1, .int .i64 i1]) (.agg #[.int .i64 b2, .int .i64 i2])).run Try.prog w = .ok (.bool true) w := by
  by_cases e1 : b1 = b2
  · have e2 : ¬ i1 = i2 := fun e => h ⟨e1, e⟩
    subst e1
    simp [go_sem, Try.underlying39, e2]
  · simp [go_sem, Try.underlying39, e1]
theorem neqS (b1 i1 : Int) (w : World) : (binOp .neq 39 (.agg #[.int .i64 b1, .int .i64 i1]) (.agg #[.int .i64 b1, .int .i64 i1])).run Try.prog w = .ok (.bool false) w := by
  simp [go_sem, Try.underlying39]
/-- An Apart: its line (0: over), whether there are two locks, its Frees. -/
structure Ap where
  ln : Nat
  two : Bool
  F1 : Fr
  F2 : Fr
def ap0 (two : Bool) (a b : Nat) : Ap := ⟨1, two, fr0 a, fr0 b⟩
def apM (M : Sd) (Q : Ap) : Sd :=
  match Q.ln with
  | 1 => fstepM M Q.F1
  | 2 => fstepM M Q.F2
  | _ => M
def apE (M : Sd) (Q : Ap) : Ap :=
  match Q.ln with
  | 1 => { Q with F1 := fstepK M Q.F1, ln := if (fstepK M Q.F1).ln = 0 then (if Q.two then 2 else 0) else 1 }
  | 2 => { Q with F2 := fstepK M Q.F2, ln := if (fstepK M Q.F2).ln = 0 then 0 else 2 }
  | _ => Q
structure ApOk (Q : Ap) : Prop where
  ln : Q.ln ≤ 2
  f1 : FOk Q.F1
  f2 : FOk Q.F2
theorem ok_ap {two : Bool} {a b : Nat} (ha : a < 4294967296) (hb : b < 4294967296) : ApOk (ap0 two a b) := ⟨by show 1 ≤ 2; omega, fok_new ha, fok_new hb⟩
theorem ApOk.step {M : Sd} {Q : Ap} (h : ApOk Q) (hl : ∀ a, S2.look M.L a < 18446744073709551616) (hk : ∀ i, M.lk i ≤ 64) : ApOk (apE M Q) := by
  obtain ⟨ln, two, F1, F2⟩ := Q
  have hln : ln ≤ 2 := h.ln
  rcases (show ln = 0 ∨ ln = 1 ∨ ln = 2 by omega) with rfl | rfl | rfl
  · exact h
  · exact ⟨by show (if (fstepK M F1).ln = 0 then (if two then 2 else 0) else 1) ≤ 2; split <;> (try split) <;> omega, h.f1.step hl hk, h.f2⟩
  · exact ⟨by show (if (fstepK M F2).ln = 0 then 0 else 2) ≤ 2; split <;> omega, h.f1, h.f2.step hl hk⟩
def oneR (B V LB U : Nat) : Rows := [(B, .cells #[.slice (some ⟨LB, 0, none⟩) 1 1] 126 (0, 0)), (V, .cells #[Pw U] 47 (0, 0)), (LB, .cells #[leaveF V] 121 (0, 0))]
def twoR (B V1 V2 LB U1 U2 : Nat) (row : Array Value) (i n c : Nat) : Rows := [(B, .cells #[.slice (some ⟨LB, i, none⟩) n c] 126 (0, 0)), (V1, .cells #[Pw U1] 47 (0, 0)), (V2, .cells #[Pw U2] 47 (0, 0)), (LB, .cells row 121 (0, 0))]
def AShape (Q : Ap) (B : Nat) (r : List Part) (u v : Nat) (l : Rows) : Prop :=
  match Q.ln with
  | 1 => match Q.two with
    | false => ∃ V LB U : Nat, l = oneR B V LB U ∧ r[u]? = some (freeP U Q.F1)
    | true => ∃ (V1 V2 LB U1 U2 c : Nat) (row : Array Value), l = twoR B V1 V2 LB U1 U2 row 0 2 (c + 2) ∧ row[0]? = some (leaveF V1) ∧ row[1]? = some (leaveF V2) ∧ c + 2 < 9223372036854775808 ∧ r[u]? = some (freeP U1 Q.F1) ∧ r[v]? = some (freeP U2 Q.F2)
  | 2 => ∃ (V1 V2 LB U1 U2 c : Nat) (row : Array Value), l = twoR B V1 V2 LB U1 U2 row 1 1 (c + 1) ∧ row[1]? = some (leaveF V2) ∧ c + 2 < 9223372036854775808 ∧ r[v]? = some (freeP U2 Q.F2)
  | _ => ∃ (P : Option Addr) (c : Nat), l[0]? = some (B, .cells #[.slice P 0 c] 126 (0, 0))
/-- An Apart beside the world. -/
structure ApAt (w0 w : World) (base WB : Nat) (M : Sd) (r : List Part) (j u v : Nat) (Q : Ap) (B : Nat) (X : Wm) : Prop where
  ju : j ≠ u
  jv : j ≠ v
  uv : u ≠ v
  hu : u < r.length
  hv : v < r.length
  at' : ∃ l, Wq w0 w base WB M r j l X ∧ AShape Q B r u v l
def AStep (w0 w' : World) (base WB : Nat) (M : Sd) (r : List Part) (j u v : Nat) (Q : Ap) (B : Nat) : Prop := ∃ q1 q2 X', ApAt w0 w' base WB (apM M Q) ((r.set u q1).set v q2) j u v (apE M Q) B X'
section
variable {w0 w w' : World} {base WB : Nat} {M : Sd} {r : List Part} {j u v U B : Nat} {l l' : Rows} {X : Wm} {Q : Ap}
theorem ApAt.new (h : ApAt w0 w base WB M r j u v Q B X) (b : Below w.heap.size w w') : ApAt w0 w' base WB M r j u v Q B X := by
  obtain ⟨l, hw, hs⟩ := h.at'
  exact ⟨h.ju, h.jv, h.uv, h.hu, h.hv, l, hw.new b, hs⟩
theorem ApAt.look (h : ApAt w0 w base WB M r j u v Q B X) (a : Nat) : S2.look M.L a < 18446744073709551616 := by
  obtain ⟨l, hw, hs⟩ := h.at'
  exact hw.look a
theorem ApAt.lk (h : ApAt w0 w base WB M r j u v Q B X) (i : Nat) : M.lk i ≤ 64 := by
  obtain ⟨l, hw, hs⟩ := h.at'
  exact pg_le hw.pg i
theorem AStep.one {Q' : Ap} {q : Part} (hq : apE M Q = Q') (h : ApAt w0 w' base WB (apM M Q) (r.set u q) j u v Q' B X) (hv : v < r.length) : AStep w0 w' base WB M r j u v Q B := by
  obtain ⟨q2, h2⟩ := same_at (r := r.set u q) (u := v) (by rw [List.length_set]; exact hv)
  exact ⟨q, q2, X, by rw [h2, hq]; exact h⟩
theorem AStep.two {Q' : Ap} {q : Part} (hq : apE M Q = Q') (h : ApAt w0 w' base WB (apM M Q) (r.set v q) j u v Q' B X) (hu : u < r.length) : AStep w0 w' base WB M r j u v Q B := by
  obtain ⟨q1, h1⟩ := same_at (r := r) (u := u) hu
  exact ⟨q1, q, X, by rw [h1, hq]; exact h⟩
theorem aq_cell (h : Wq w0 w base WB M r j l X) {n c : Nat} {P : Option Addr} (hb : l[0]? = some (B, .cells #[.slice P n c] 126 (0, 0))) : w.cell? ⟨B, 0, none⟩ = some (.slice P n c) ∧ w.frozen? ⟨B, 0, none⟩ = false := ⟨cell_row (h.blk 0 hb) 0, froz_row (h.blk 0 hb) 0⟩
theorem cell_at {w : World} {B i T : Nat} {row : Array Value} {v : Value} (h : w.heap[B]? = some (.cells row T (0, 0))) (e : row[i]? = some v) : w.cell? ⟨B, i, none⟩ = some v := by
  rw [cell_row h i]; exact e
set_option maxRecDepth 100000 in
set_option maxHeartbeats 4000000 in
theorem aline_1one {F1 F2 : Fr} (h : ApAt w0 w base WB M r j u v ⟨1, false, F1, F2⟩ B X) (ok : FOk F1) (hn : M.n ≤ 1000000000) (hp : M.pn ≤ 1000000000) :
    Calls Try.prog 33 #[.pointer (some ⟨B, 0, none⟩), Pw WB] w fun e w' => e = .returned (.tuple #[]) ∧ AStep w0 w' base WB M r j u v ⟨1, false, F1, F2⟩ B := by
  obtain ⟨l, hw, V, LB, U, rfl, hr1⟩ := h.at'
  have hc := aq_cell hw rfl
  have hw1' := hw.put 0 rfl 0 (.slice (restA LB 0 (0)) (0) (0)) rfl
  have hst := leave_step hw1' h.ju hr1 1 (V := V) rfl (ok.ok hn hp) ok.ln
  refine (todo_leave (LB := LB) (i := 0) (n := 0) (c := 0) (V := V) (Q := fun bo w' => bo = decide ((fstepK M F1).ln = 0) ∧ ∃ X', Wq w0 w' base WB (fstepM M F1) (r.set u (freeP U (fstepK M F1))) j [(B, .cells #[.slice (some ⟨LB, 0, none⟩) 0 0] 126 (0, 0)), (V, .cells #[Pw U] 47 (0, 0)), (LB, .cells #[leaveF V] 121 (0, 0))] X') (by omega) (by omega) (by omega) hc.1 hc.2 (cell_at (hw1'.blk 2 rfl) rfl) (hst.mono ?_) ?_).mono ?_
  · rintro e w' ⟨rfl, X', h'⟩
    exact ⟨_, rfl, rfl, X', h'⟩
  · rintro w' ⟨_, X', h'⟩
    exact ⟨(aq_cell h' rfl).2, _, (aq_cell h' rfl).1⟩
  · rintro e w' ⟨rfl, ⟨hb, X', h'⟩ | ⟨w2, ⟨hb, X', h'⟩, rfl⟩⟩
    · have h0 : (fstepK M F1).ln = 0 := of_decide_eq_true hb.symm
      have e : apE M ⟨1, false, F1, F2⟩ = ⟨0, false, fstepK M F1, F2⟩ := by show (⟨if (fstepK M F1).ln = 0 then (if false then 2 else 0) else 1, false, fstepK M F1, F2⟩ : Ap) = _; rw [if_pos h0]; rfl
      exact ⟨rfl, AStep.one (q := freeP U (fstepK M F1)) e (X := X') ⟨h.ju, h.jv, h.uv, by rw [List.length_set]; exact h.hu, by rw [List.length_set]; exact h.hv, _, h', _, _, rfl⟩ h.hv⟩
    · have h0 : ¬ (fstepK M F1).ln = 0 := of_decide_eq_false hb.symm
      have e : apE M ⟨1, false, F1, F2⟩ = ⟨1, false, fstepK M F1, F2⟩ := by show (⟨if (fstepK M F1).ln = 0 then (if false then 2 else 0) else 1, false, fstepK M F1, F2⟩ : Ap) = _; rw [if_neg h0]
      have h2 := h'.put 0 rfl 0 (.slice (some ⟨LB, 0, none⟩) 1 1) rfl
      exact ⟨rfl, AStep.one (q := freeP U (fstepK M F1)) e (X := X') ⟨h.ju, h.jv, h.uv, by rw [List.length_set]; exact h.hu, by rw [List.length_set]; exact h.hv, _, h2, V, LB, U, rfl, List.getElem?_set_self h.hu⟩ h.hv⟩
set_option maxRecDepth 100000 in
set_option maxHeartbeats 4000000 in
theorem aline_1two {F1 F2 : Fr} (h : ApAt w0 w base WB M r j u v ⟨1, true, F1, F2⟩ B X) (ok : FOk F1) (hn : M.n ≤ 1000000000) (hp : M.pn ≤ 1000000000) :
    Calls Try.prog 33 #[.pointer (some ⟨B, 0, none⟩), Pw WB] w fun e w' => e = .returned (.tuple #[]) ∧ AStep w0 w' base WB M r j u v ⟨1, true, F1, F2⟩ B := by
  obtain ⟨l, hw, V1, V2, LB, U1, U2, c, row, rfl, hw0, hw1, hc2, hr1, hr2⟩ := h.at'
  have hc := aq_cell hw rfl
  have hw1' := hw.put 0 rfl 0 (.slice (restA LB 0 (c + 1)) (1) (c + 1)) rfl
  have hst := leave_step hw1' h.ju hr1 1 (V := V1) rfl (ok.ok hn hp) ok.ln
  refine (todo_leave (LB := LB) (i := 0) (n := 1) (c := c + 1) (V := V1) (Q := fun bo w' => bo = decide ((fstepK M F1).ln = 0) ∧ ∃ X', Wq w0 w' base WB (fstepM M F1) (r.set u (freeP U1 (fstepK M F1))) j (twoR B V1 V2 LB U1 U2 row 1 1 (c + 1)) X') (by omega) (by omega) (by omega) hc.1 hc.2 (cell_at (hw1'.blk 3 rfl) hw0) (hst.mono ?_) ?_).mono ?_
  · rintro e w' ⟨rfl, X', h'⟩
    exact ⟨_, rfl, rfl, X', h'⟩
  · rintro w' ⟨_, X', h'⟩
    exact ⟨(aq_cell h' rfl).2, _, (aq_cell h' rfl).1⟩
  · rintro e w' ⟨rfl, ⟨hb, X', h'⟩ | ⟨w2, ⟨hb, X', h'⟩, rfl⟩⟩
    · have h0 : (fstepK M F1).ln = 0 := of_decide_eq_true hb.symm
      have e : apE M ⟨1, true, F1, F2⟩ = ⟨2, true, fstepK M F1, F2⟩ := by show (⟨if (fstepK M F1).ln = 0 then (if true then 2 else 0) else 1, true, fstepK M F1, F2⟩ : Ap) = _; rw [if_pos h0]; rfl
      exact ⟨rfl, AStep.one (q := freeP U1 (fstepK M F1)) e (X := X') ⟨h.ju, h.jv, h.uv, by rw [List.length_set]; exact h.hu, by rw [List.length_set]; exact h.hv, _, h', V1, V2, LB, U1, U2, c, row, rfl, hw1, hc2, set_oth hr2 h.uv⟩ h.hv⟩
    · have h0 : ¬ (fstepK M F1).ln = 0 := of_decide_eq_false hb.symm
      have e : apE M ⟨1, true, F1, F2⟩ = ⟨1, true, fstepK M F1, F2⟩ := by show (⟨if (fstepK M F1).ln = 0 then (if true then 2 else 0) else 1, true, fstepK M F1, F2⟩ : Ap) = _; rw [if_neg h0]
      have h2 := h'.put 0 rfl 0 (.slice (some ⟨LB, 0, none⟩) 2 (c + 2)) rfl
      exact ⟨rfl, AStep.one (q := freeP U1 (fstepK M F1)) e (X := X') ⟨h.ju, h.jv, h.uv, by rw [List.length_set]; exact h.hu, by rw [List.length_set]; exact h.hv, _, h2, V1, V2, LB, U1, U2, c, row, rfl, hw0, hw1, hc2, set_get hr1, set_oth hr2 h.uv⟩ h.hv⟩
set_option maxRecDepth 100000 in
set_option maxHeartbeats 4000000 in
theorem aline_2 {F1 F2 : Fr} {tw : Bool} (h : ApAt w0 w base WB M r j u v ⟨2, tw, F1, F2⟩ B X) (ok : FOk F2) (hn : M.n ≤ 1000000000) (hp : M.pn ≤ 1000000000) :
    Calls Try.prog 33 #[.pointer (some ⟨B, 0, none⟩), Pw WB] w fun e w' => e = .returned (.tuple #[]) ∧ AStep w0 w' base WB M r j u v ⟨2, tw, F1, F2⟩ B := by
  obtain ⟨l, hw, V1, V2, LB, U1, U2, c, row, rfl, hw1, hc2, hr2⟩ := h.at'
  have hc := aq_cell hw rfl
  have hw1' := hw.put 0 rfl 0 (.slice (restA LB 1 (c)) (0) (c)) rfl
  have hst := leave_step hw1' h.jv hr2 2 (V := V2) rfl (ok.ok hn hp) ok.ln
  refine (todo_leave (LB := LB) (i := 1) (n := 0) (c := c) (V := V2) (Q := fun bo w' => bo = decide ((fstepK M F2).ln = 0) ∧ ∃ X', Wq w0 w' base WB (fstepM M F2) (r.set v (freeP U2 (fstepK M F2))) j [(B, .cells #[.slice (restA LB 1 c) 0 c] 126 (0, 0)), (V1, .cells #[Pw U1] 47 (0, 0)), (V2, .cells #[Pw U2] 47 (0, 0)), (LB, .cells row 121 (0, 0))] X') (by omega) (by omega) (by omega) hc.1 hc.2 (cell_at (hw1'.blk 3 rfl) hw1) (hst.mono ?_) ?_).mono ?_
  · rintro e w' ⟨rfl, X', h'⟩
    exact ⟨_, rfl, rfl, X', h'⟩
  · rintro w' ⟨_, X', h'⟩
    exact ⟨(aq_cell h' rfl).2, _, (aq_cell h' rfl).1⟩
  · rintro e w' ⟨rfl, ⟨hb, X', h'⟩ | ⟨w2, ⟨hb, X', h'⟩, rfl⟩⟩
    · have h0 : (fstepK M F2).ln = 0 := of_decide_eq_true hb.symm
      have e : apE M ⟨2, tw, F1, F2⟩ = ⟨0, tw, F1, fstepK M F2⟩ := by show (⟨if (fstepK M F2).ln = 0 then 0 else 2, tw, F1, fstepK M F2⟩ : Ap) = _; rw [if_pos h0]
      exact ⟨rfl, AStep.two (q := freeP U2 (fstepK M F2)) e (X := X') ⟨h.ju, h.jv, h.uv, by rw [List.length_set]; exact h.hu, by rw [List.length_set]; exact h.hv, _, h', _, _, rfl⟩ h.hu⟩
    · have h0 : ¬ (fstepK M F2).ln = 0 := of_decide_eq_false hb.symm
      have e : apE M ⟨2, tw, F1, F2⟩ = ⟨2, tw, F1, fstepK M F2⟩ := by show (⟨if (fstepK M F2).ln = 0 then 0 else 2, tw, F1, fstepK M F2⟩ : Ap) = _; rw [if_neg h0]
      have h2 := h'.put 0 rfl 0 (.slice (some ⟨LB, 1, none⟩) 1 (c + 1)) rfl
      exact ⟨rfl, AStep.two (q := freeP U2 (fstepK M F2)) e (X := X') ⟨h.ju, h.jv, h.uv, by rw [List.length_set]; exact h.hu, by rw [List.length_set]; exact h.hv, _, h2, V1, V2, LB, U1, U2, c, row, rfl, hw1, hc2, set_get hr2⟩ h.hu⟩
set_option maxRecDepth 100000 in
set_option maxHeartbeats 4000000 in
theorem aover_any {n c : Nat} {P : Option Addr} (k : Nat) (h : Wq w0 w base WB M r j l X) (hb : l[k]? = some (B, .cells #[.slice P n c] 126 (0, 0))) : Calls Try.prog 127 #[Pw B] w fun e w' => e = .returned (.bool (decide (n = 0))) ∧ Below w.heap.size w w' := by
  have y0 : w.cell? ⟨B, 0, none⟩ = some (.slice P n c) := cell_row (h.blk k hb) 0
  have d1 : ((n : Int) == 0) = decide (n = 0) := by by_cases e : n = 0 <;> simp [e]
  have d2 : decide ((n : Int) = 0) = decide (n = 0) := by by_cases e : n = 0 <;> simp [e]
  generalize decide (n = 0) = d at *
  clear h hb
  go_enter Try.func127, Try.ntmps127
  go_wp2_with fail
  go_ret
  exact ⟨by simp [d1, d2], Below.refl _ _⟩
theorem ApAt.over (h : ApAt w0 w base WB M r j u v Q B X) (ok : ApOk Q) : Calls Try.prog 127 #[Pw B] w fun e w' => e = .returned (.bool (decide (Q.ln = 0))) ∧ Below w.heap.size w w' := by
  obtain ⟨l, hw, hs⟩ := h.at'
  obtain ⟨ln, two, F1, F2⟩ := Q
  have hln : ln ≤ 2 := ok.ln
  rcases (show ln = 0 ∨ ln = 1 ∨ ln = 2 by omega) with rfl | rfl | rfl
  · obtain ⟨P, c, hl⟩ := hs
    exact aover_any 0 hw hl
  · cases two
    · obtain ⟨V, LB, U, rfl, _⟩ := hs
      exact aover_any (n := 1) 0 hw rfl
    · obtain ⟨V1, V2, LB, U1, U2, c, row, rfl, _⟩ := hs
      exact aover_any (n := 2) 0 hw rfl
  · obtain ⟨V1, V2, LB, U1, U2, c, row, rfl, _⟩ := hs
    exact aover_any (n := 1) 0 hw rfl
/-- A step of what is left of an Apart that is not over. -/
theorem apart_todo (h : ApAt w0 w base WB M r j u v Q B X) (ok : ApOk Q) (hn : M.n ≤ 1000000000) (hp : M.pn ≤ 1000000000) (h0 : Q.ln ≠ 0) :
    Calls Try.prog 33 #[.pointer (some ⟨B, 0, none⟩), Pw WB] w fun e w' => e = .returned (.tuple #[]) ∧ AStep w0 w' base WB M r j u v Q B := by
  obtain ⟨ln, two, F1, F2⟩ := Q
  have hln : ln ≤ 2 := ok.ln
  have h0' : ln ≠ 0 := h0
  rcases (show ln = 1 ∨ ln = 2 by omega) with rfl | rfl
  · cases two
    · exact aline_1one h ok.f1 hn hp
    · exact aline_1two h ok.f1 hn hp
  · exact aline_2 h ok.f2 hn hp
set_option maxRecDepth 100000 in
set_option maxHeartbeats 4000000 in
/-- A step of an Apart. -/
theorem astep_any (h : ApAt w0 w base WB M r j u v Q B X) (ok : ApOk Q) (hn : M.n ≤ 1000000000) (hp : M.pn ≤ 1000000000) (h0 : Q.ln ≠ 0) :
    Calls Try.prog 128 #[Pw B, Pw WB] w fun e w' => e = .returned (.bool (decide ((apE M Q).ln = 0))) ∧ AStep w0 w' base WB M r j u v Q B := by
  have hov := h.over ok
  rw [decide_eq_false h0] at hov
  have hst := fun (W : World) (hb : Below w.heap.size w W) => apart_todo (h.new hb) ok hn hp h0
  have hov2 : ∀ W, AStep w0 W base WB M r j u v Q B → Calls Try.prog 127 #[Pw B] W fun e w' => e = .returned (.bool (decide ((apE M Q).ln = 0))) ∧ AStep w0 w' base WB M r j u v Q B := fun W ⟨q1, q2, X', h'⟩ => by
    refine (h'.over (ok.step h.look h.lk)).mono ?_
    rintro e w' ⟨rfl, hb⟩
    exact ⟨rfl, q1, q2, X', h'.new hb⟩
  have HOV := Lib.hid hov; have HST := Lib.hid hst; have HOV2 := Lib.hid hov2
  clear h ok hn hp h0 hov hst hov2
  generalize decide ((apE M Q).ln = 0) = b at *
  go_enter Try.func128, Try.ntmps128
  go_upto_region 2 with (go_at_call 127; refine HOV.out.mono ?_; rintro e w2 ⟨rfl, hb2⟩; have HB2 := Lib.hid hb2; clear hb2)
  go_upto_region 3 with (go_at_call 33; refine (HST.out _ HB2.out).mono ?_; rintro e w3 ⟨rfl, hs⟩; have HS := Lib.hid hs; clear hs)
  go_wp2_with (go_at_call 127; refine (HOV2.out _ HS.out).mono ?_; rintro e w4 ⟨rfl, hs⟩; have HS4 := Lib.hid hs; clear hs)
  go_ret
  exact ⟨rfl, HS4.out⟩
set_option maxRecDepth 100000 in
set_option maxHeartbeats 4000000 in
theorem new_apart_one (h : Pg w0 w base WB M r X) {pb pi qb qi : Int} {a b : Nat} (hz1 : S10.lockZ pb pi = (a : Int)) (hz2 : S10.lockZ qb qi = (b : Int)) (he : pb = qb ∧ pi = qi) :
    Calls Try.prog 22 #[.agg #[.int .i64 pb, .int .i64 pi], .agg #[.int .i64 qb, .int .i64 qi]] w fun e w' => ∃ B q1 q2, e = .returned (Pw B) ∧ ApAt w0 w' base WB M (((r ++ [noP, noP, noP]).set (r.length + 1) q1).set (r.length + 2) q2) r.length (r.length + 1) (r.length + 2) (ap0 false a b) B X := by
  have g1 := Pg.push1 h (rowsP []) (Below.refl _ _) ⟨fun x hx => by simp at hx, List.nodup_nil⟩ (fun k hk => by obtain ⟨ob, he⟩ := hk; simp at he)
  have g2 := Pg.push1 g1 noP (Below.refl _ _) trivial (fun k e => e.elim)
  have g3 := Pg.push1 g2 noP (Below.refl _ _) trivial (fun k e => e.elim)
  simp only [List.append_assoc, List.cons_append, List.nil_append] at g3
  have hq : Wq w0 w base WB M (r ++ [noP, noP, noP]) r.length [] X := by
    refine ⟨?_, by rw [List.length_append]; show _ < _ + 3; omega⟩
    rw [List.set_append_right _ _ (Nat.le_refl _), Nat.sub_self]
    exact g3
  have HJ : Hid (r.length ≠ r.length + 1 ∧ r.length ≠ r.length + 2 ∧ r.length + 1 < (r ++ [noP, noP, noP]).length ∧ ∀ q, r.length + 2 < ((r ++ [noP, noP, noP]).set (r.length + 1) q).length) := Lib.hid (by
    refine ⟨by omega, by omega, by rw [List.length_append]; show _ < _ + 3; omega, fun q => ?_⟩
    rw [List.length_set, List.length_append]; show _ < _ + 3; omega)
  have HJUV : Hid (r.length + 1 ≠ r.length + 2) := Lib.hid (by omega)
  generalize (r ++ [noP, noP, noP]) = R at *
  generalize r.length + 1 = u at *
  generalize r.length + 2 = v at *
  generalize r.length = j at *
  have h1 := hq.push (.cells #[.int .i64 pb, .int .i64 pi] 39)
  have h2 := h1.push (.cells #[.int .i64 qb, .int .i64 qi] 39)
  obtain ⟨PB, hPB⟩ : ∃ PB, PB = w.heap.size := ⟨_, rfl⟩
  obtain ⟨QB, hQB⟩ : ∃ QB, QB = (w.alloc (.cells #[.int .i64 pb, .int .i64 pi] 39)).heap.size := ⟨_, rfl⟩
  rw [← hPB, ← hQB] at h2
  simp only [List.append_assoc, List.cons_append, List.nil_append] at h2
  have hQ2 : QB = PB + 1 := by rw [hQB, alloc_size, hPB]
  obtain ⟨rfl, rfl⟩ := he
  have hd := neqS pb pi
  have H2 := Lib.hid h2; have HZ1 := Lib.hid hz1; have HZ := Lib.hid hz2; have HPB := Lib.hid hPB; have HQB := Lib.hid hQ2
  clear h g1 g2 g3 hq h1 h2 hz1 hz2 hPB hQB hQ2
  go_enter Try.func22, Try.ntmps22
  go_upto_region 1 with (fail)
  rw [← HPB.out, ← HQB.out]
  generalize (w.alloc (.cells #[.int .i64 pb, .int .i64 pi] 39)).alloc (.cells #[.int .i64 pb, .int .i64 pi] 39) = w2 at *
  have c0 : w2.cell? ⟨PB, 0, none⟩ = some (.int .i64 pb) := cell_row (H2.out.blk 0 rfl) 0
  have c1 : w2.cell? ⟨PB, 1, none⟩ = some (.int .i64 pi) := cell_row (H2.out.blk 0 rfl) 1
  have HL2 := Lib.hid (leave_new H2.out HJ.out.1 HJ.out.2.2.1 HZ1.out)
  go_upto_region 2 with (go_at_call 34; refine HL2.out.mono ?_; rintro e w3 ⟨V, U, rfl, _, h3⟩)
  have h4 := h3.push (.cells #[leaveF V] 121)
  have h5 := h4.push (.cells #[.slice (some ⟨w3.heap.size, 0, none⟩) 1 1] 126)
  obtain ⟨LB, hLB⟩ : ∃ LB, LB = w3.heap.size := ⟨_, rfl⟩
  obtain ⟨B, hB⟩ : ∃ B, B = (w3.alloc (.cells #[leaveF V] 121)).heap.size := ⟨_, rfl⟩
  have hB2 : B = LB + 1 := by rw [hB, alloc_size, hLB]
  rw [← hB, ← hLB] at h5
  simp only [List.append_assoc, List.cons_append, List.nil_append] at h5
  rw [← hLB]
  (try rw [← hB2])
  have H5 := Lib.hid h5
  clear c0 c1 HL2 h3 h4 h5 hLB hB hB2 H2 HZ1 HPB HQB
  generalize (w3.alloc (.cells #[leaveF V] 121)).alloc (.cells #[.slice (some ⟨LB, 0, none⟩) 1 1] 126) = w5 at *
  have a0 : w5.cell? ⟨PB, 0, none⟩ = some (.int .i64 pb) := cell_row (H5.out.blk 0 rfl) 0
  have a1 : w5.cell? ⟨PB, 1, none⟩ = some (.int .i64 pi) := cell_row (H5.out.blk 0 rfl) 1
  have b0 : w5.cell? ⟨QB, 0, none⟩ = some (.int .i64 pb) := cell_row (H5.out.blk 1 rfl) 0
  have b1 : w5.cell? ⟨QB, 1, none⟩ = some (.int .i64 pi) := cell_row (H5.out.blk 1 rfl) 1
  go_wp2_with fail
  go_ret
  obtain ⟨q2, hq2⟩ := same_at (r := R.set u (freeP U (fr0 a))) (u := v) (HJ.out.2.2.2 _)
  refine ⟨B, freeP U (fr0 a), q2, rfl, ?_⟩
  rw [hq2]
  refine ⟨HJ.out.1, HJ.out.2.1, HJUV.out, by rw [List.length_set]; exact HJ.out.2.2.1, by have := HJ.out.2.2.2 noP; rw [List.length_set] at this ⊢; exact this, oneR B V LB U, ?_, V, LB, U, rfl, List.getElem?_set_self HJ.out.2.2.1⟩
  have hs := H5.out.at.2
  refine H5.out.only (fun x hx => ?_) ?_
  · simp only [oneR, List.mem_cons, List.not_mem_nil, or_false] at hx ⊢
    rcases hx with rfl | rfl | rfl <;> simp
  · simp only [oneR, List.map_cons, List.map_nil, List.nodup_cons, List.mem_cons, List.not_mem_nil, or_false, not_or, not_false_eq_true, List.nodup_nil, and_true] at hs ⊢
    omega
set_option maxRecDepth 100000 in
set_option maxHeartbeats 4000000 in
theorem new_apart_ne1 (h : Pg w0 w base WB M r X) {pb pi qb qi : Int} {a b : Nat} (hz1 : S10.lockZ pb pi = (a : Int)) (hz2 : S10.lockZ qb qi = (b : Int)) (he : ¬ qb = pb) :
    Calls Try.prog 22 #[.agg #[.int .i64 pb, .int .i64 pi], .agg #[.int .i64 qb, .int .i64 qi]] w fun e w' => ∃ B q1 q2, e = .returned (Pw B) ∧ ApAt w0 w' base WB M (((r ++ [noP, noP, noP]).set (r.length + 1) q1).set (r.length + 2) q2) r.length (r.length + 1) (r.length + 2) (ap0 true a b) B X := by
  have g1 := Pg.push1 h (rowsP []) (Below.refl _ _) ⟨fun x hx => by simp at hx, List.nodup_nil⟩ (fun k hk => by obtain ⟨ob, he⟩ := hk; simp at he)
  have g2 := Pg.push1 g1 noP (Below.refl _ _) trivial (fun k e => e.elim)
  have g3 := Pg.push1 g2 noP (Below.refl _ _) trivial (fun k e => e.elim)
  simp only [List.append_assoc, List.cons_append, List.nil_append] at g3
  have hq : Wq w0 w base WB M (r ++ [noP, noP, noP]) r.length [] X := by
    refine ⟨?_, by rw [List.length_append]; show _ < _ + 3; omega⟩
    rw [List.set_append_right _ _ (Nat.le_refl _), Nat.sub_self]
    exact g3
  have HJ : Hid (r.length ≠ r.length + 1 ∧ r.length ≠ r.length + 2 ∧ r.length + 1 < (r ++ [noP, noP, noP]).length ∧ ∀ q, r.length + 2 < ((r ++ [noP, noP, noP]).set (r.length + 1) q).length) := Lib.hid (by
    refine ⟨by omega, by omega, by rw [List.length_append]; show _ < _ + 3; omega, fun q => ?_⟩
    rw [List.length_set, List.length_append]; show _ < _ + 3; omega)
  have HJUV : Hid (r.length + 1 ≠ r.length + 2) := Lib.hid (by omega)
  generalize (r ++ [noP, noP, noP]) = R at *
  generalize r.length + 1 = u at *
  generalize r.length + 2 = v at *
  generalize r.length = j at *
  have h1 := hq.push (.cells #[.int .i64 pb, .int .i64 pi] 39)
  have h2 := h1.push (.cells #[.int .i64 qb, .int .i64 qi] 39)
  obtain ⟨PB, hPB⟩ : ∃ PB, PB = w.heap.size := ⟨_, rfl⟩
  obtain ⟨QB, hQB⟩ : ∃ QB, QB = (w.alloc (.cells #[.int .i64 pb, .int .i64 pi] 39)).heap.size := ⟨_, rfl⟩
  rw [← hPB, ← hQB] at h2
  simp only [List.append_assoc, List.cons_append, List.nil_append] at h2
  have hQ2 : QB = PB + 1 := by rw [hQB, alloc_size, hPB]
  have H2 := Lib.hid h2; have HZ1 := Lib.hid hz1; have HZ := Lib.hid hz2; have HPB := Lib.hid hPB; have HQB := Lib.hid hQ2
  clear h g1 g2 g3 hq h1 h2 hz1 hz2 hPB hQB hQ2
  go_enter Try.func22, Try.ntmps22
  go_upto_region 1 with (fail)
  rw [← HPB.out, ← HQB.out]
  generalize (w.alloc (.cells #[.int .i64 pb, .int .i64 pi] 39)).alloc (.cells #[.int .i64 qb, .int .i64 qi] 39) = w2 at *
  have c0 : w2.cell? ⟨PB, 0, none⟩ = some (.int .i64 pb) := cell_row (H2.out.blk 0 rfl) 0
  have c1 : w2.cell? ⟨PB, 1, none⟩ = some (.int .i64 pi) := cell_row (H2.out.blk 0 rfl) 1
  have HL2 := Lib.hid (leave_new H2.out HJ.out.1 HJ.out.2.2.1 HZ1.out)
  go_upto_region 2 with (go_at_call 34; refine HL2.out.mono ?_; rintro e w3 ⟨V, U, rfl, _, h3⟩)
  have h4 := h3.push (.cells #[leaveF V] 121)
  have h5 := h4.push (.cells #[.slice (some ⟨w3.heap.size, 0, none⟩) 1 1] 126)
  obtain ⟨LB, hLB⟩ : ∃ LB, LB = w3.heap.size := ⟨_, rfl⟩
  obtain ⟨B, hB⟩ : ∃ B, B = (w3.alloc (.cells #[leaveF V] 121)).heap.size := ⟨_, rfl⟩
  have hB2 : B = LB + 1 := by rw [hB, alloc_size, hLB]
  rw [← hB, ← hLB] at h5
  simp only [List.append_assoc, List.cons_append, List.nil_append] at h5
  rw [← hLB]
  (try rw [← hB2])
  have H5 := Lib.hid h5
  clear c0 c1 HL2 h3 h4 h5 hLB hB hB2 H2 HZ1 HPB HQB
  generalize (w3.alloc (.cells #[leaveF V] 121)).alloc (.cells #[.slice (some ⟨LB, 0, none⟩) 1 1] 126) = w5 at *
  have a0 : w5.cell? ⟨PB, 0, none⟩ = some (.int .i64 pb) := cell_row (H5.out.blk 0 rfl) 0
  have a1 : w5.cell? ⟨PB, 1, none⟩ = some (.int .i64 pi) := cell_row (H5.out.blk 0 rfl) 1
  have b0 : w5.cell? ⟨QB, 0, none⟩ = some (.int .i64 qb) := cell_row (H5.out.blk 1 rfl) 0
  have b1 : w5.cell? ⟨QB, 1, none⟩ = some (.int .i64 qi) := cell_row (H5.out.blk 1 rfl) 1
  go_upto_region 3 with (fail)
  clear a0 a1
  have y5 : w5.cell? ⟨B, 0, none⟩ = some (.slice (some ⟨LB, 0, none⟩) 1 1) := cell_row (H5.out.blk 4 rfl) 0
  have HL := Lib.hid (leave_new (H5.out.new (Below.refl _ _).drew) HJ.out.2.1 (HJ.out.2.2.2 _) HZ.out)
  go_region_law (first
    | (refine wp_append_task (LB0 := LB) (LB1 := w6.heap.size) z0 z1 rfl _ _ rfl rfl rfl ?_; intro cc row hc1 hc2 hr0 hr1; (have h8 := (H6.out.new ((Below.refl _ _).alloc (Nat.le_refl _) (.cells #[leaveF V2] 121)).drew).push (.cells row 121)); have y8 : ((w6.alloc (.cells #[leaveF V2] 121)).alloc (.cells row 121)).cell? ⟨B, 0, none⟩ = some (.slice (some ⟨LB, 0, none⟩) 1 1) := cell_row (h8.blk 4 rfl) 0; have f8 : ((w6.alloc (.cells #[leaveF V2] 121)).alloc (.cells row 121)).frozen? ⟨B, 0, none⟩ = false := froz_row (h8.blk 4 rfl) 0; have H8 := Lib.hid h8; have HR := Lib.hid (And.intro hc1 (And.intro hc2 (And.intro hr0 hr1))); clear h8 hc1 hc2 hr0 hr1)
    | (go_simp; go_at_call 34; refine HL.out.mono ?_; rintro e w6 ⟨V2, U2, rfl, _, h6⟩; (have y6 : w6.cell? ⟨B, 0, none⟩ = some (.slice (some ⟨LB, 0, none⟩) 1 1) := cell_row (h6.blk 4 rfl) 0); (have h7 := h6.push (.cells #[leaveF V2] 121)); (have y7 : (w6.alloc (.cells #[leaveF V2] 121)).cell? ⟨B, 0, none⟩ = some (.slice (some ⟨LB, 0, none⟩) 1 1) := cell_row (h7.blk 4 rfl) 0); (have z0 : (w6.alloc (.cells #[leaveF V2] 121)).cell? ⟨LB, 0, none⟩ = some (leaveF V) := cell_row (h7.blk 3 rfl) 0); (have z1 : (w6.alloc (.cells #[leaveF V2] 121)).cell? ⟨w6.heap.size, 0, none⟩ = some (leaveF V2) := cell_row (h7.blk 6 rfl) 0); have H6 := Lib.hid h6; clear h6 h7))
  all_goals
    (have h9 := H8.out.put 4 rfl 0 (.slice (some ⟨w6.heap.size + 1, 0, none⟩) 2 cc) rfl)
    go_wp2_with fail
    go_ret
    obtain ⟨hc1, hc2, hr0, hr1⟩ := HR.out
    obtain ⟨c, rfl⟩ : ∃ c, cc = c + 2 := ⟨cc - 2, by omega⟩
    refine ⟨B, _, _, rfl, HJ.out.1, HJ.out.2.1, HJUV.out, by rw [List.length_set, List.length_set]; exact HJ.out.2.2.1, by have := HJ.out.2.2.2 noP; rw [List.length_set] at this; rw [List.length_set, List.length_set]; exact this, twoR B V V2 (w6.heap.size + 1) U U2 row 0 2 (c + 2), ?_, V, V2, _, U, U2, c, row, rfl, hr0, hr1, by omega, (List.getElem?_set_ne (Ne.symm HJUV.out)).trans (List.getElem?_set_self HJ.out.2.2.1), List.getElem?_set_self (HJ.out.2.2.2 _)⟩
    have hz : (w6.alloc (.cells #[leaveF V2] 121)).drew.heap.size = w6.heap.size + 1 := alloc_size _ _
    rw [hz] at h9
    simp only [List.append_assoc, List.cons_append, List.nil_append, List.set_cons_succ, List.set_cons_zero] at h9
    have hs := h9.at.2
    refine h9.only (fun x hx => ?_) ?_
    · simp only [twoR, List.mem_cons, List.not_mem_nil, or_false] at hx ⊢
      rcases hx with rfl | rfl | rfl | rfl <;> simp
    · simp only [twoR, List.map_cons, List.map_nil, List.nodup_cons, List.mem_cons, List.not_mem_nil, or_false, not_or, not_false_eq_true, List.nodup_nil, and_true] at hs ⊢
      omega
set_option maxRecDepth 100000 in
set_option maxHeartbeats 4000000 in
theorem new_apart_ne2 (h : Pg w0 w base WB M r X) {pb pi qb qi : Int} {a b : Nat} (hz1 : S10.lockZ pb pi = (a : Int)) (hz2 : S10.lockZ qb qi = (b : Int)) (eb : pb = qb) (he : ¬ qi = pi) :
    Calls Try.prog 22 #[.agg #[.int .i64 pb, .int .i64 pi], .agg #[.int .i64 qb, .int .i64 qi]] w fun e w' => ∃ B q1 q2, e = .returned (Pw B) ∧ ApAt w0 w' base WB M (((r ++ [noP, noP, noP]).set (r.length + 1) q1).set (r.length + 2) q2) r.length (r.length + 1) (r.length + 2) (ap0 true a b) B X := by
  subst eb
  have g1 := Pg.push1 h (rowsP []) (Below.refl _ _) ⟨fun x hx => by simp at hx, List.nodup_nil⟩ (fun k hk => by obtain ⟨ob, he⟩ := hk; simp at he)
  have g2 := Pg.push1 g1 noP (Below.refl _ _) trivial (fun k e => e.elim)
  have g3 := Pg.push1 g2 noP (Below.refl _ _) trivial (fun k e => e.elim)
  simp only [List.append_assoc, List.cons_append, List.nil_append] at g3
  have hq : Wq w0 w base WB M (r ++ [noP, noP, noP]) r.length [] X := by
    refine ⟨?_, by rw [List.length_append]; show _ < _ + 3; omega⟩
    rw [List.set_append_right _ _ (Nat.le_refl _), Nat.sub_self]
    exact g3
  have HJ : Hid (r.length ≠ r.length + 1 ∧ r.length ≠ r.length + 2 ∧ r.length + 1 < (r ++ [noP, noP, noP]).length ∧ ∀ q, r.length + 2 < ((r ++ [noP, noP, noP]).set (r.length + 1) q).length) := Lib.hid (by
    refine ⟨by omega, by omega, by rw [List.length_append]; show _ < _ + 3; omega, fun q => ?_⟩
    rw [List.length_set, List.length_append]; show _ < _ + 3; omega)
  have HJUV : Hid (r.length + 1 ≠ r.length + 2) := Lib.hid (by omega)
  generalize (r ++ [noP, noP, noP]) = R at *
  generalize r.length + 1 = u at *
  generalize r.length + 2 = v at *
  generalize r.length = j at *
  have h1 := hq.push (.cells #[.int .i64 pb, .int .i64 pi] 39)
  have h2 := h1.push (.cells #[.int .i64 pb, .int .i64 qi] 39)
  obtain ⟨PB, hPB⟩ : ∃ PB, PB = w.heap.size := ⟨_, rfl⟩
  obtain ⟨QB, hQB⟩ : ∃ QB, QB = (w.alloc (.cells #[.int .i64 pb, .int .i64 pi] 39)).heap.size := ⟨_, rfl⟩
  rw [← hPB, ← hQB] at h2
  simp only [List.append_assoc, List.cons_append, List.nil_append] at h2
  have hQ2 : QB = PB + 1 := by rw [hQB, alloc_size, hPB]
  have H2 := Lib.hid h2; have HZ1 := Lib.hid hz1; have HZ := Lib.hid hz2; have HPB := Lib.hid hPB; have HQB := Lib.hid hQ2
  clear h g1 g2 g3 hq h1 h2 hz1 hz2 hPB hQB hQ2
  go_enter Try.func22, Try.ntmps22
  go_upto_region 1 with (fail)
  rw [← HPB.out, ← HQB.out]
  generalize (w.alloc (.cells #[.int .i64 pb, .int .i64 pi] 39)).alloc (.cells #[.int .i64 pb, .int .i64 qi] 39) = w2 at *
  have c0 : w2.cell? ⟨PB, 0, none⟩ = some (.int .i64 pb) := cell_row (H2.out.blk 0 rfl) 0
  have c1 : w2.cell? ⟨PB, 1, none⟩ = some (.int .i64 pi) := cell_row (H2.out.blk 0 rfl) 1
  have HL2 := Lib.hid (leave_new H2.out HJ.out.1 HJ.out.2.2.1 HZ1.out)
  go_upto_region 2 with (go_at_call 34; refine HL2.out.mono ?_; rintro e w3 ⟨V, U, rfl, _, h3⟩)
  have h4 := h3.push (.cells #[leaveF V] 121)
  have h5 := h4.push (.cells #[.slice (some ⟨w3.heap.size, 0, none⟩) 1 1] 126)
  obtain ⟨LB, hLB⟩ : ∃ LB, LB = w3.heap.size := ⟨_, rfl⟩
  obtain ⟨B, hB⟩ : ∃ B, B = (w3.alloc (.cells #[leaveF V] 121)).heap.size := ⟨_, rfl⟩
  have hB2 : B = LB + 1 := by rw [hB, alloc_size, hLB]
  rw [← hB, ← hLB] at h5
  simp only [List.append_assoc, List.cons_append, List.nil_append] at h5
  rw [← hLB]
  (try rw [← hB2])
  have H5 := Lib.hid h5
  clear c0 c1 HL2 h3 h4 h5 hLB hB hB2 H2 HZ1 HPB HQB
  generalize (w3.alloc (.cells #[leaveF V] 121)).alloc (.cells #[.slice (some ⟨LB, 0, none⟩) 1 1] 126) = w5 at *
  have a0 : w5.cell? ⟨PB, 0, none⟩ = some (.int .i64 pb) := cell_row (H5.out.blk 0 rfl) 0
  have a1 : w5.cell? ⟨PB, 1, none⟩ = some (.int .i64 pi) := cell_row (H5.out.blk 0 rfl) 1
  have b0 : w5.cell? ⟨QB, 0, none⟩ = some (.int .i64 pb) := cell_row (H5.out.blk 1 rfl) 0
  have b1 : w5.cell? ⟨QB, 1, none⟩ = some (.int .i64 qi) := cell_row (H5.out.blk 1 rfl) 1
  go_upto_region 3 with (fail)
  clear a0 a1
  have y5 : w5.cell? ⟨B, 0, none⟩ = some (.slice (some ⟨LB, 0, none⟩) 1 1) := cell_row (H5.out.blk 4 rfl) 0
  have HL := Lib.hid (leave_new (H5.out.new (Below.refl _ _).drew) HJ.out.2.1 (HJ.out.2.2.2 _) HZ.out)
  go_region_law (first
    | (refine wp_append_task (LB0 := LB) (LB1 := w6.heap.size) z0 z1 rfl _ _ rfl rfl rfl ?_; intro cc row hc1 hc2 hr0 hr1; (have h8 := (H6.out.new ((Below.refl _ _).alloc (Nat.le_refl _) (.cells #[leaveF V2] 121)).drew).push (.cells row 121)); have y8 : ((w6.alloc (.cells #[leaveF V2] 121)).alloc (.cells row 121)).cell? ⟨B, 0, none⟩ = some (.slice (some ⟨LB, 0, none⟩) 1 1) := cell_row (h8.blk 4 rfl) 0; have f8 : ((w6.alloc (.cells #[leaveF V2] 121)).alloc (.cells row 121)).frozen? ⟨B, 0, none⟩ = false := froz_row (h8.blk 4 rfl) 0; have H8 := Lib.hid h8; have HR := Lib.hid (And.intro hc1 (And.intro hc2 (And.intro hr0 hr1))); clear h8 hc1 hc2 hr0 hr1)
    | (go_simp; go_at_call 34; refine HL.out.mono ?_; rintro e w6 ⟨V2, U2, rfl, _, h6⟩; (have y6 : w6.cell? ⟨B, 0, none⟩ = some (.slice (some ⟨LB, 0, none⟩) 1 1) := cell_row (h6.blk 4 rfl) 0); (have h7 := h6.push (.cells #[leaveF V2] 121)); (have y7 : (w6.alloc (.cells #[leaveF V2] 121)).cell? ⟨B, 0, none⟩ = some (.slice (some ⟨LB, 0, none⟩) 1 1) := cell_row (h7.blk 4 rfl) 0); (have z0 : (w6.alloc (.cells #[leaveF V2] 121)).cell? ⟨LB, 0, none⟩ = some (leaveF V) := cell_row (h7.blk 3 rfl) 0); (have z1 : (w6.alloc (.cells #[leaveF V2] 121)).cell? ⟨w6.heap.size, 0, none⟩ = some (leaveF V2) := cell_row (h7.blk 6 rfl) 0); have H6 := Lib.hid h6; clear h6 h7))
  all_goals
    (have h9 := H8.out.put 4 rfl 0 (.slice (some ⟨w6.heap.size + 1, 0, none⟩) 2 cc) rfl)
    go_wp2_with fail
    go_ret
    obtain ⟨hc1, hc2, hr0, hr1⟩ := HR.out
    obtain ⟨c, rfl⟩ : ∃ c, cc = c + 2 := ⟨cc - 2, by omega⟩
    refine ⟨B, _, _, rfl, HJ.out.1, HJ.out.2.1, HJUV.out, by rw [List.length_set, List.length_set]; exact HJ.out.2.2.1, by have := HJ.out.2.2.2 noP; rw [List.length_set] at this; rw [List.length_set, List.length_set]; exact this, twoR B V V2 (w6.heap.size + 1) U U2 row 0 2 (c + 2), ?_, V, V2, _, U, U2, c, row, rfl, hr0, hr1, by omega, (List.getElem?_set_ne (Ne.symm HJUV.out)).trans (List.getElem?_set_self HJ.out.2.2.1), List.getElem?_set_self (HJ.out.2.2.2 _)⟩
    have hz : (w6.alloc (.cells #[leaveF V2] 121)).drew.heap.size = w6.heap.size + 1 := alloc_size _ _
    rw [hz] at h9
    simp only [List.append_assoc, List.cons_append, List.nil_append, List.set_cons_succ, List.set_cons_zero] at h9
    have hs := h9.at.2
    refine h9.only (fun x hx => ?_) ?_
    · simp only [twoR, List.mem_cons, List.not_mem_nil, or_false] at hx ⊢
      rcases hx with rfl | rfl | rfl | rfl <;> simp
    · simp only [twoR, List.map_cons, List.map_nil, List.nodup_cons, List.mem_cons, List.not_mem_nil, or_false, not_or, not_false_eq_true, List.nodup_nil, and_true] at hs ⊢
      omega
theorem new_apart_two (h : Pg w0 w base WB M r X) {pb pi qb qi : Int} {a b : Nat} (hz1 : S10.lockZ pb pi = (a : Int)) (hz2 : S10.lockZ qb qi = (b : Int)) (he : ¬ (pb = qb ∧ pi = qi)) :
    Calls Try.prog 22 #[.agg #[.int .i64 pb, .int .i64 pi], .agg #[.int .i64 qb, .int .i64 qi]] w fun e w' => ∃ B q1 q2, e = .returned (Pw B) ∧ ApAt w0 w' base WB M (((r ++ [noP, noP, noP]).set (r.length + 1) q1).set (r.length + 2) q2) r.length (r.length + 1) (r.length + 2) (ap0 true a b) B X := by
  by_cases e : pb = qb
  · exact new_apart_ne2 h hz1 hz2 e (fun e2 => he ⟨e, e2.symm⟩)
  · exact new_apart_ne1 h hz1 hz2 (fun e2 => e e2.symm)
end
end Go.Proofs.Ytdfokceecnmocaa.S16
