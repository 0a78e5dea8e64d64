/- Texts of this seat, one behind the other. -/
import Derived.Test.YthafnphpcdbnlaaGreatDoorMLawNew44
set_option linter.unusedVariables false
set_option linter.unusedSimpArgs false
set_option linter.unusedVariables false
set_option linter.unusedSimpArgs false
namespace Go.Proofs.YthafnphpcdbnlaaGreatDoor.S12
open Go.Proofs.YthafnphpcdbnlaaGreatDoor Go.Proofs.YthafnphpcdbnlaaGreatDoor.S11
open Go.RowKit

section
variable {w w' : World} {base : Nat} {l l' : List Part}
theorem Parts.beside {b2 : Nat} (h : Parts w base l) (b : Below w.heap.size w w') (h2 : Parts w' b2 l') (hb : w.heap.size ≤ b2) : Parts w' base (l ++ l') := by
  have h1 := h.new b
  have split : ∀ j r, (l ++ l')[j]? = some r → (j < l.length ∧ l[j]? = some r) ∨ (l.length ≤ j ∧ l'[j - l.length]? = some r) := fun j r hr => by
    by_cases hj : j < l.length
    · rw [List.getElem?_append_left hj] at hr; exact .inl ⟨hj, hr⟩
    · rw [List.getElem?_append_right (by omega)] at hr; exact .inr ⟨by omega, hr⟩
  refine ⟨Nat.le_trans h.size b.size, fun j r hr => ?_, fun j k r s hr hs hjk x hx hy => ?_, fun j r hr x hx => ?_⟩
  · rcases split j r hr with ⟨_, hr⟩ | ⟨_, hr⟩
    · exact h1.ok _ _ hr
    · exact h2.ok _ _ hr
  · rcases split j r hr with ⟨_, h3⟩ | ⟨_, h3⟩ <;> rcases split k s hs with ⟨_, h4⟩ | ⟨_, h4⟩
    · exact h1.apart _ _ _ _ h3 h4 hjk x hx hy
    · have := h2.low _ _ h4 x hy; have := r.lt w (h.ok _ _ h3) x hx; omega
    · have := h2.low _ _ h3 x hx; have := s.lt w (h.ok _ _ h4) x hy; omega
    · exact h2.apart _ _ _ _ h3 h4 (by omega) x hx hy
  · rcases split j r hr with ⟨_, hr⟩ | ⟨_, hr⟩
    · exact h1.low _ _ hr x hx
    · have := h2.low _ _ hr x hx; have := h.size; omega
end
theorem bg_second {w0 w1 w2 : World} {base : Nat} {X : Wm} {Y : Rm} {spin : Int} {most : Nat} {D : List Nat} (hX : PW w1 base X) (hx : At0 X spin most D) (hY : Parts w2 w1.heap.size Y.parts) (hr : RAt0 Y spin most D) (hb : Y.rb ≤ w2.heap.size) (b : Below w1.heap.size w1 w2) (hbl : Below base w0 w2) (hsp : 0 ≤ spin ∧ spin ≤ 16) :
    Bg w0 w2 base X.wB Y.wB 0 0 1 (sd0 spin most D) (sd0 spin most D) [] X Y := by
  have hj := Parts.beside hX b hY (Nat.le_refl _)
  refine { pr := ?_, wB := rfl, rB := rfl, xn := by rw [hx.n]; omega, yn := by rw [hr.n]; omega, pn := by rw [hx.pn]; omega, yp := by rw [hr.pn]; omega, nD := by rw [hx.nD]; simp, pok := by rw [hx.pf]; exact S4.pkok0, byt := by rw [hx.L]; exact byt02, spk := hsp, pkr := (by rw [hx.pk]; decide), nk := (by rw [hx.nD]; intro d hd; cases hd), xm := hx.sd, ym := hr.sd, gd := S10.good_first 0, gr := S10.good_first 0, tn := by rw [hx.tn]; omega, rb := hb, bl := hbl }
  unfold PairAt
  rw [List.append_nil]
  exact hj
end Go.Proofs.YthafnphpcdbnlaaGreatDoor.S12
set_option linter.unusedVariables false
set_option linter.unusedSimpArgs false
namespace Go.Proofs.YthafnphpcdbnlaaGreatDoor.S3
open Go.Proofs.YthafnphpcdbnlaaGreatDoor
open Go.RowKit

theorem zero_cells (z : Value) (n : Nat) : Builtin.zeroCells #[z] n = (List.replicate n z).toArray := by
  unfold Builtin.zeroCells
  apply Array.ext'
  simp
  apply List.ext_getElem
  · simp
  · intro i h1 h2
    simp [Nat.mod_one]
set_option maxRecDepth 100000 in
theorem run_zeros_room (w : World) (ty : TypeId) (b off sLen sCap n : Nat) (hn0 : n ≠ 0) (hn : n ≤ 1000000) (hroom : sLen + n ≤ sCap)
    (hc : ∀ j, j < n → (w.cell? ⟨b, off + sLen + j, none⟩).isSome = true) (hf : ∀ j, j < n → w.frozen? ⟨b, off + sLen + j, none⟩ = false) :
    (Builtin.append_ #[23, 3] ty #[.slice (some ⟨b, off, none⟩) sLen sCap, .int .i64 (n : Int)]).run Tryz.prog w = .ok (.slice (some ⟨b, off, none⟩) (sLen + n) sCap) (w.setCells b (off + sLen) (List.replicate n (Value.int .u64 0))) := by
  obtain ⟨i, hi, hz, hsz, hby⟩ := info23
  have hk : Tryz.prog.underlying 3 = some (.int .i64) := by kernel_rfl
  have hst := run_storeCells_cells (P := Tryz.prog) b (off + sLen) (List.replicate n (.int .u64 0)) 0 w (by simpa using hc) (by simpa using hf) (fun u hu => by rw [List.eq_of_mem_replicate hu]; rfl)
  simp only [Nat.add_zero] at hst
  have hw : IntKind.i64.wrap (n : Int) = (n : Int) := by rw [IntKind.wrap_i64]; omega
  have h0 : ¬ ((n : Int) < 0) := by omega
  have h48 : ¬ (281474976710656 < (n : Int) * 8) := by omega
  · have hn1 : ¬ ((n : Int) ≤ 0) := by omega
    simp [Builtin.append_, run_underlying Tryz.underlying23, run_underlying hk, sizeOf, typeInfo, hi, hsz, hby, hz, hroom, Addr.add_lit, hst, hw, h0, h48, hn0, hn1, zeroValue, zero_cells, asInt, asIntOf, Value.cells]
set_option maxRecDepth 100000 in
theorem run_zeros_grow (w : World) (ty : TypeId) (base : Option Addr) (sLen sCap n : Nat) (olds : List Value) (hn0 : n ≠ 0) (hn : n ≤ 1000000) (hs : sLen ≤ 1000000)
    (hold : (Builtin.firstCells 1 sLen (.slice base sLen sCap)).run Tryz.prog w.drew = .ok olds.toArray w.drew)
    (hg : sCap < sLen + n) (hfit : Builtin.nextslicecap (sLen + n) sCap * 8 ≤ 281474976710656) :
    (Builtin.append_ #[23, 3] ty #[.slice base sLen sCap, .int .i64 (n : Int)]).run Tryz.prog w =
      .ok (.slice (some ⟨w.heap.size, 0, none⟩) (sLen + n) (grownCap w (sLen + n) sCap 22))
        (w.drew.alloc (.cells ((olds ++ List.replicate n (Value.int .u64 0)).toArray ++ Builtin.zeroCells (Value.int .u64 0).cells (grownCap w (sLen + n) sCap 22 - (sLen + n))) 22)) := by
  obtain ⟨i, hi, hz, hsz, hby⟩ := info23
  have hk : Tryz.prog.underlying 3 = some (.int .i64) := by kernel_rfl
  have hw : IntKind.i64.wrap (n : Int) = (n : Int) := by rw [IntKind.wrap_i64]; omega
  have h0 : ¬ ((n : Int) < 0) := by omega
  have h48 : ¬ (281474976710656 < (n : Int) * 8) := by omega
  have hnr : ¬ (sLen + n ≤ sCap) := by omega
  have h63' : ¬ (9223372036854775807 < ((sLen : Int) + (n : Int))) := by omega
  have h48' : ¬ (281474976710656 < Builtin.nextslicecap (sLen + n) sCap * 8) := by omega
  · have hn1 : ¬ ((n : Int) ≤ 0) := by omega
    simp [Builtin.append_, run_underlying Tryz.underlying23, run_underlying hk, sizeOf, typeInfo, hi, hsz, hby, hz, hnr, Addr.add_lit, hw, h0, h48, hn0, hn1, zeroValue, zero_cells, asInt, asIntOf, Value.cells, h63', h48', Question.forced, hold, newRow, grownCap]
    congr 2
    apply Array.ext'
    simp [List.append_assoc]
set_option maxRecDepth 100000 in
theorem row_zeros {w : World} {base : Nat} {s : Value} {D : List Nat} (h : Row w base s D) (hbase : base ≤ w.heap.size) {n : Nat} (hn0 : n ≠ 0) (hlen : D.length + n ≤ 1000000) (ty : TypeId) :
    ∃ s' w', (Builtin.append_ #[23, 3] ty #[s, .int .i64 (n : Int)]).run Tryz.prog w = .ok s' w' ∧ Row w' base s' (D ++ List.replicate n 0) ∧ Turns (fun k => s.ownBlock = some k) w w' ∧ (s'.ownBlock = s.ownBlock ∨ s'.ownBlock = some w.heap.size) := by
  obtain ⟨E, hE0⟩ : ∃ E, E = List.replicate n 0 := ⟨_, rfl⟩
  have hEl : E.length = n := by rw [hE0]; simp
  have hEm : E.map uv = List.replicate n (Value.int .u64 0) := by rw [hE0]; simp [uv]
  rw [← hE0]
  clear hE0
  subst hEl
  obtain ⟨B, cap, rfl, h1, h2, h3, h4⟩ := h
  have hmax : D.length + E.length ≤ maxLen := by unfold maxLen; omega
  by_cases hroom : D.length + E.length ≤ cap
  · cases B with
    | none => have := h3 rfl; omega
    | some ad =>
      obtain ⟨g, o, rfl, hb, hlt, hl, hc⟩ := h4 ad rfl
      have hlu := len_uv E
      have hrun := run_zeros_room w ty g o D.length cap E.length hn0 (by omega) hroom
        (fun j hj => by rw [Nat.add_assoc]; exact (hc (D.length + j) (by omega)).1) (fun j hj => by rw [Nat.add_assoc]; exact (hc (D.length + j) (by omega)).2)
      rw [← hEm] at hrun
      refine ⟨_, _, hrun, ?_, Turns.setCells (S := fun k => (Value.slice (some ⟨g, o, none⟩) D.length cap).ownBlock = some k) (Turns.refl _ w) g rfl _ _, .inl rfl⟩
      refine ⟨some ⟨g, o, none⟩, cap, by rw [List.length_append], by rw [List.length_append]; exact hroom, h2, (fun e => by cases e), fun ad e => ?_⟩
      cases e
      refine ⟨g, o, rfl, hb, by rw [size_setCells']; exact hlt, fun k hk => ?_, fun j hj => ⟨some_setCells _ _ _ _ _ (hc j hj).1, by rw [World.frozen?_setCells]; exact (hc j hj).2⟩⟩
      rw [List.length_append] at hk
      by_cases hkd : k < D.length
      · rw [World.cell?_setCells_out _ _ _ _ _ (fun _ _ => .inl (by show o + k < _; omega)), get_app hkd]
        exact hl k hkd
      · have hin := World.cell?_setCells_in g (E.map uv) (o + D.length) w (fun j hj => by rw [Nat.add_assoc]; exact (hc (D.length + j) (by omega)).1) (k - D.length) (by omega)
        rw [show o + D.length + (k - D.length) = o + k by omega] at hin
        rw [hin, get_app2 (by omega) hk]
        have := get_uv (D := E) (j := k - D.length) (by omega)
        rw [List.getElem?_eq_getElem (by omega)] at this
        exact this
  · have hold : (Builtin.firstCells 1 D.length (.slice B D.length cap)).run Tryz.prog w.drew = .ok (D.map uv).toArray w.drew := by
      have hr2 : Rd w.drew w.heap.size B D := Row.rd (w := w.drew) (base := base) (cap := cap) ⟨B, cap, rfl, h1, h2, h3, h4⟩
      exact (hr2.src cap).cells
    have hlu := len_uv E
    have hld := len_uv D
    have hge := grownCap_ge w (D.length + E.length) cap 22
    have hcm := grownCap_le_maxLen w (D.length + E.length) cap 22 hmax
    have hrun := run_zeros_grow w ty B D.length cap E.length (D.map uv) hn0 (by omega) (by omega) hold (by omega) (growslice_fits (by omega) (by omega))
    rw [← hEm] at hrun
    have hnew := heap_alloc_new w.drew (.cells ((D.map uv ++ E.map uv).toArray ++ Builtin.zeroCells (Value.int .u64 0).cells (grownCap w (D.length + E.length) cap 22 - (D.length + E.length))) 22)
    rw [show w.drew.heap.size = w.heap.size from rfl] at hnew
    refine ⟨_, _, hrun, ?_, ((Turns.refl _ w).drew).alloc _, .inr rfl⟩
    generalize grownCap w (D.length + E.length) cap 22 = cc at *
    have hzs : (Builtin.zeroCells (Value.int .u64 0).cells (cc - (D.length + E.length))).size = cc - (D.length + E.length) := by rw [size_zeroCells]; simp [Value.cells]
    refine ⟨_, cc, by rw [List.length_append], by rw [List.length_append]; exact hge, hcm, (fun e => by cases e), fun ad e => ?_⟩
    cases e
    refine ⟨w.heap.size, 0, rfl, hbase, by simp, fun k hk => ?_, fun j hj => ⟨?_, froz_row hnew _⟩⟩
    · rw [cell_row hnew, Nat.zero_add, ← List.map_append]
      rw [List.length_append] at hk
      rw [Array.getElem?_append_left (by simp; omega)]
      simp only [List.getElem?_toArray]
      exact get_uv (by simp; omega)
    · rw [cell_row hnew, Nat.zero_add]
      have : j < ((D.map uv ++ E.map uv).toArray ++ Builtin.zeroCells (Value.int .u64 0).cells (cc - (D.length + E.length))).size := by
        rw [Array.size_append, hzs]; simp; omega
      rw [Array.getElem?_eq_getElem this]; rfl
end Go.Proofs.YthafnphpcdbnlaaGreatDoor.S3
set_option linter.unusedVariables false
set_option linter.unusedSimpArgs false
namespace Go.Proofs.YthafnphpcdbnlaaGreatDoor.S3
open Go.Proofs.YthafnphpcdbnlaaGreatDoor
open Go.RowKit

theorem Row.capsN {w : World} {base : Nat} {A : Option Addr} {n cap : Nat} {D : List Nat} (h : Row w base (.slice A n cap) D) : n = D.length ∧ D.length ≤ cap ∧ cap ≤ 9223372036854775807 := by
  obtain ⟨A', cap', e, h1, h2, _⟩ := h
  injection e with e1 e2 e3
  subst e2 e3
  exact ⟨rfl, h1, by unfold maxLen at h2; omega⟩
/-- The cells of a list of a call's own: they may be written. -/
def Wr (w : World) (A : Option Addr) (n : Nat) : Prop := 0 < n → ∃ g o, A = some ⟨g, o, none⟩ ∧ ∀ j, j < n → (w.cell? ⟨g, o + j, none⟩).isSome = true ∧ w.frozen? ⟨g, o + j, none⟩ = false
theorem Row.wr {w : World} {base : Nat} {A : Option Addr} {n cap : Nat} {D : List Nat} (h : Row w base (.slice A n cap) D) : Wr w A n := fun hn => by
  obtain ⟨A', cap', e, h1, h2, h3, h4⟩ := h
  injection e with e1 e2 e3
  subst e1 e2 e3
  cases A with
  | none => have := h3 rfl; omega
  | some ad =>
    obtain ⟨g, o, rfl, _, _, _, hc⟩ := h4 ad rfl
    exact ⟨g, o, rfl, fun j hj => hc j (by omega)⟩
theorem wp_zeros_row {o : Oper} {a : Act} {w : World} {K : Act → World → Prop} {Q : Exit → Act → World → Prop} (s x : Operand)
    (ho : o.op = .call { callee := .builtin .append, args := #[s, x], argTypes := #[23, 3] }) {base : Nat} {v : Value} {D : List Nat} (hs : a.eval s = v) (h : Row w base v D) (hbase : base ≤ w.heap.size)
    {n : Nat} (hx : a.eval x = .int .i64 (n : Int)) (hn0 : n ≠ 0) (hlen : D.length + n ≤ 1000000)
    (hK : ∀ v' w', Row w' base v' (D ++ List.replicate n 0) → Turns (fun k => v.ownBlock = some k) w w' → (v'.ownBlock = v.ownBlock ∨ v'.ownBlock = some w.heap.size) → K (a.put o.dst v') w') : o.wp Tryz.prog a w K Q := by
  obtain ⟨v', w', hrun, h2, h3, h4⟩ := row_zeros h hbase hn0 hlen o.type
  unfold Oper.wp execOp
  simp only [ho, resolve, invoke, builtin, Sem.run_bind, Sem.run_pure, Result.andThen_ok, List.map_toArray, List.map_cons, List.map_nil, hs, hx, hrun]
  exact hK v' w' h2 h3 h4
theorem step_zeros_row {ops : Array Oper} {o : Oper} {a : Act} {w : World} {K : Act → World → Prop} {Q : Exit → Act → World → Prop} {F : Prop} (hgd : o.guard = none) (s x : Operand)
    (ho : o.op = .call { callee := .builtin .append, args := #[s, x], argTypes := #[23, 3] }) {base : Nat} {v : Value} {D : List Nat} (hs : a.eval s = v) (h : Row w base v D) (hbase : base ≤ w.heap.size)
    {n : Nat} (hx : a.eval x = .int .i64 (n : Int)) (hn0 : n ≠ 0) (hlen : D.length + n ≤ 1000000)
    (hK : ∀ v' w', Row w' base v' (D ++ List.replicate n 0) → Turns (fun k => v.ownBlock = some k) w w' → (v'.ownBlock = v.ownBlock ∨ v'.ownBlock = some w.heap.size) → K (a.put o.dst v') w') :
    if Region.wanted o (yielded ops a.tmps) = true then Oper.wp Tryz.prog o a w K Q else F := by
  have hw : Region.wanted o (yielded ops a.tmps) = true := by simp [Region.wanted, hgd]
  rw [if_pos hw]
  exact wp_zeros_row s x ho hs h hbase hx hn0 hlen hK
end Go.Proofs.YthafnphpcdbnlaaGreatDoor.S3
