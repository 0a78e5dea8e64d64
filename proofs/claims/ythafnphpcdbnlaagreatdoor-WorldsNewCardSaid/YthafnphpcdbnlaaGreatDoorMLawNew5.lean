/- Texts of this seat, one behind the other. -/
import Derived.Test.YthafnphpcdbnlaaGreatDoorMLawNew4
import Derived.Laws.CopyOwn
import Derived.Laws.MakeOwn
set_option linter.unusedVariables false
set_option linter.unusedSimpArgs false
set_option linter.unusedVariables false
set_option linter.unusedSimpArgs false
namespace Go.Proofs.YthafnphpcdbnlaaGreatDoor.S3
open Go.Proofs.YthafnphpcdbnlaaGreatDoor
open Go.RowKit

def sat (a b : Nat) : Nat := if a + b ≤ 18446744073709551615 then a + b else 18446744073709551615
theorem sat_le (a b : Nat) : sat a b ≤ 18446744073709551615 := by unfold sat; split <;> omega
theorem ret_u64 {a b : Nat} (h : a = b) : Ending.returned (.int .u64 a) = Ending.returned (.int .u64 b) := by rw [h]
theorem ret_int {k : IntKind} {a b : Int} (h : a = b) : Ending.returned (.int k a) = .returned (.int k b) := by rw [h]
/-- A draw that is brought to most at most. -/
def brt (d most : Nat) : Nat := d % (most + 1)
theorem brought_any (d most : Nat) (hd : d ≤ 18446744073709551615) (hm : most ≤ 18446744073709551615) (w : World) : Calls Tryz.prog 37 #[.int .u64 d, .int .u64 most] w fun e w' => e = .returned (.int .u64 (brt d most : Nat)) ∧ w = w' := by
  unfold brt
  by_cases h : most = 18446744073709551615
  · have e : d % (most + 1) = d := Nat.mod_eq_of_lt (by omega)
    rw [e]
    have t : ((most : Int) == 18446744073709551615) = true := by rw [beq_iff_eq]; omega
    clear e h
    go_enter Tryz.func37, Tryz.ntmps37
    go_wp2
    go_ret
    exact ⟨rfl, rfl⟩
  · have t : ((most : Int) == 18446744073709551615) = false := by rw [beq_eq_false_iff_ne]; omega
    have t2 : ((most : Int) + 1 == 0) = false := by rw [beq_eq_false_iff_ne]; omega
    have b : (most : Int) + 1 ≤ 18446744073709551615 := by omega
    clear h
    go_enter Tryz.func37, Tryz.ntmps37
    go_wp2
    go_ret
    exact ⟨rfl, rfl⟩
theorem first_any (A : Option Addr) (n c k : Nat) (hn : n ≤ c) (hc : c ≤ 9223372036854775807) (hk : k ≤ 9223372036854775807) (w : World) : Calls Tryz.prog 48 #[.slice A n c, .int .i64 k] w fun e w' => e = .returned (.slice A (min n k) c) ∧ w = w' := by
  by_cases h : n ≤ k
  · rw [Nat.min_eq_left h]
    go_enter Tryz.func48, Tryz.ntmps48
    go_wp2
    go_ret
    exact ⟨rfl, rfl⟩
  · rw [Nat.min_eq_right (by omega)]
    go_enter Tryz.func48, Tryz.ntmps48
    go_wp2
    go_ret
    exact ⟨rfl, rfl⟩
end Go.Proofs.YthafnphpcdbnlaaGreatDoor.S3
set_option linter.unusedVariables false
set_option linter.unusedSimpArgs false
namespace Go.Proofs.YthafnphpcdbnlaaGreatDoor.S3
open Go.Proofs.YthafnphpcdbnlaaGreatDoor
open Go.RowKit

theorem make_any (n : Nat) (hn : n ≤ 65536) (w : World) : ∃ cur : List Value, cur.length = n ∧ (Instr.makeSlice 23 (.int .i64 (n : Int)) (.int .i64 (n : Int))).run Tryz.prog w = .ok (.slice (some ⟨w.heap.size, 0, none⟩) n n) (w.alloc (.cells cur.toArray 22)) := by
  obtain ⟨i, hi, hz, hsz, hby⟩ := info23
  have hr := run_make (P := Tryz.prog) w 23 22 i (.int .u64 0) Tryz.underlying23 hi hz .i64 .i64 n n (by omega) (Int.le_refl _) (by rw [hby]; omega) (by omega)
  simp only [Int.toNat_natCast, hsz, Nat.mul_one] at hr
  exact ⟨(madeCells (Value.int .u64 0).cells n).toList, by simp [madeCells], by rw [hr]⟩
theorem splice_all (cur cs : List Value) (h : cs.length = cur.length) : splice cur 0 cs = cs := by
  simp [splice, h]
theorem size23 : (Tryz.prog.info? 22).map (·.size) = some 1 := by kernel_rfl
/-- A list that lies whole in a block of its own. -/
theorem row_whole {w : World} {base g : Nat} {D : List Nat} (h : w.heap[g]? = some (.cells (D.map uv).toArray 22 (0, 0))) (hb : base ≤ g) (hm : D.length ≤ maxLen) : Row w base (.slice (some ⟨g, 0, none⟩) D.length D.length) D := by
  refine ⟨_, _, rfl, Nat.le_refl _, hm, (fun e => by cases e), fun ad e => ?_⟩
  cases e
  refine ⟨g, 0, rfl, hb, (Array.getElem?_eq_some_iff.1 h).1, fun i hi => ?_, fun j hj => ⟨?_, froz_row h _⟩⟩
  · rw [cell_row h, Nat.zero_add]
    simp only [List.getElem?_toArray]
    exact get_uv hi
  · rw [cell_row h, Nat.zero_add]
    simp only [List.getElem?_toArray]
    rw [get_uv hj]; rfl
theorem Rd.spell {w : World} {base : Nat} {A : Option Addr} {D : List Nat} (h : Rd w base A D) (hp : 0 < (D.map uv).length) : ∃ ad, A = some ad ∧ ∀ (j : Nat) v, (D.map uv)[j]? = some v → w.cell? (ad.add j) = some v := by
  rw [len_uv] at hp
  obtain ⟨g, o, rfl, _, hl⟩ := h hp
  refine ⟨_, rfl, fun j v e => ?_⟩
  have hj : j < D.length := by
    have := (List.getElem?_eq_some_iff.1 e).1
    simpa using this
  rw [add_none, hl j hj, ← e, get_uv hj]
theorem copied_any (A : Option Addr) (c base : Nat) (D : List Nat) (hn : D.length ≤ 65536) (w : World) (hr : Rd w base A D) (hbase : base ≤ w.heap.size) : Calls Tryz.prog 47 #[.slice A D.length c] w fun e w' => ∃ s, e = .returned s ∧ Row w' w.heap.size s D ∧ Below w.heap.size w w' := by
  obtain ⟨cur, hcl, hmk⟩ := make_any D.length hn w
  have hg0 := heap_alloc_new w (.cells cur.toArray 22)
  have hR := (hr.below (w' := w.alloc (.cells cur.toArray 22)) ((Below.refl _ _).alloc (Nat.le_refl _) _) hbase)
  have hb0 : Below w.heap.size w (w.alloc (.cells cur.toArray 22)) := (Below.refl _ _).alloc (Nat.le_refl _) _
  have h1 : (D.map uv).length = Nat.min D.length D.length := by rw [len_uv]; exact (Nat.min_self _).symm
  have h2 : 0 < (D.map uv).length → (some (⟨w.heap.size, 0, none⟩ : Addr)) = some ⟨w.heap.size, 0, none⟩ ∧ ∃ ad, A = some ad ∧ ∀ (j : Nat) v, (D.map uv)[j]? = some v → (w.alloc (.cells cur.toArray 22)).cell? (ad.add j) = some v := fun hp => ⟨rfl, hR.spell hp⟩
  have h3 : 0 + (D.map uv).length ≤ cur.length := by rw [len_uv]; omega
  have h4 := splice_all cur (D.map uv) (by rw [len_uv, hcl])
  have HG := Lib.hid hg0
  have HB := Lib.hid hb0
  have H1 := Lib.hid h1; have H2 := Lib.hid h2; have H3 := Lib.hid h3; have H4 := Lib.hid h4; have HO := Lib.hid (one_uv D)
  clear hr hg0 hcl hb0 h1 h2 h3 h4 hR
  generalize hU : D.map uv = U at *
  have HU := Lib.hid hU
  clear hU
  go_enter Tryz.func47, Tryz.ntmps47
  go_wp2_with (first
    | ((with_reducible refine wpList_copy_splice rfl (.tmp 9) (.tmp 10) 23 23 rfl 22 Tryz.underlying23 size23 _ _ _ _ _ _ rfl rfl w.heap.size 0 cur 22 HG.out U H1.out H2.out H3.out HO.out w.heap.size w HB.out (Nat.le_refl _) ?_); intro w' HG2 hB2))
  go_ret
  refine ⟨_, rfl, row_whole ?_ (Nat.le_refl _) (by unfold maxLen; omega), hB2⟩
  have e := HG2.out
  rw [H4.out, ← HU.out] at e
  exact e
end Go.Proofs.YthafnphpcdbnlaaGreatDoor.S3
set_option linter.unusedVariables false
set_option linter.unusedSimpArgs false
namespace Go.Proofs.YthafnphpcdbnlaaGreatDoor.S3
open Go.Proofs.YthafnphpcdbnlaaGreatDoor
open Go.RowKit

abbrev Pt (B : Nat) : Value := .pointer (some ⟨B, 0, none⟩)
/-- Numbers that are numbers of 64 bits, and not too many. -/
structure Nums (T most : Nat) (D : List Nat) : Prop where
  t : T ≤ 18446744073709551615
  m : most ≤ 18446744073709551615
  len : D.length ≤ 65536
  all : ∀ d ∈ D, d ≤ 18446744073709551615
structure ClockAt (w : World) (base B T most : Nat) (s : Value) (D : List Nat) : Prop where
  nums : Nums T most D
  row : w.heap[B]? = some (.cells #[.int .u64 T, .int .u64 most, s] 106 (0, 0))
  own : Row w base s D
  ne : s.ownBlock ≠ some B
section
variable {w w' : World} {base B T most : Nat} {s : Value} {D : List Nat}
theorem ClockAt.lt (h : ClockAt w base B T most s D) : B < w.heap.size := (Array.getElem?_eq_some_iff.1 h.row).1
theorem ClockAt.kept {S : Nat → Prop} (h : ClockAt w base B T most s D) (t : Turns S w w') (hB : ¬ S B) (hs : ∀ g, s.ownBlock = some g → ¬ S g) : ClockAt w' base B T most s D :=
  ⟨h.nums, (t.block B h.lt hB).trans h.row, h.own.keep t hs, h.ne⟩
theorem ClockAt.new (h : ClockAt w base B T most s D) (b : Below w.heap.size w w') : ClockAt w' base B T most s D :=
  h.kept (Turns.of_below (S := fun _ => False) b) (fun e => e) (fun _ _ e => e)
theorem now_any (h : ClockAt w base B T most s D) : Calls Tryz.prog 31 #[Pt B] w fun e w' => e = .returned (.int .u64 T) ∧ w = w' := by
  have c0 : w.cell? ⟨B, 0, none⟩ = some (.int .u64 T) := cell_row h.row 0
  clear h
  go_enter Tryz.func31, Tryz.ntmps31
  go_wp2
  go_ret
  exact ⟨rfl, rfl⟩
theorem now_nil (w : World) : Calls Tryz.prog 31 #[.pointer none] w fun e w' => e = .returned (.int .u64 0) ∧ w = w' := by
  go_enter Tryz.func31, Tryz.ntmps31
  go_wp2
  go_ret
  exact ⟨rfl, rfl⟩
theorem left_any (h : ClockAt w base B T most s D) : Calls Tryz.prog 59 #[Pt B] w fun e w' => e = .returned (.int .i64 (D.length : Nat)) ∧ w = w' := by
  have c0 : w.cell? ⟨B, 2, none⟩ = some s := cell_row h.row 2
  obtain ⟨A, cap, rfl, _⟩ := h.own
  clear h
  go_enter Tryz.func59, Tryz.ntmps59
  go_wp2
  go_ret
  exact ⟨rfl, rfl⟩
theorem left_nil (w : World) : Calls Tryz.prog 59 #[.pointer none] w fun e w' => e = .returned (.int .i64 0) ∧ w = w' := by
  go_enter Tryz.func59, Tryz.ntmps59
  go_wp2
  go_ret
  exact ⟨rfl, rfl⟩
def comeB (T : Nat) (on : Bool) (at_ : Nat) : Bool := on && decide (at_ ≤ T)
theorem Nums.tick {n : Nat} (h : Nums T most D) : Nums (sat T n) most D := ⟨sat_le _ _, h.m, h.len, h.all⟩
theorem draw_nil (w : World) : Calls Tryz.prog 9 #[.pointer none] w fun e w' => e = .returned (.int .u64 0) ∧ w = w' := by
  go_enter Tryz.func9, Tryz.ntmps9
  go_wp2
  go_ret
  exact ⟨rfl, rfl⟩
theorem draw_none (h : ClockAt w base B T most s []) : Calls Tryz.prog 9 #[Pt B] w fun e w' => e = .returned (.int .u64 0) ∧ w = w' := by
  have c0 : w.cell? ⟨B, 2, none⟩ = some s := cell_row h.row 2
  obtain ⟨A, cap, rfl, _⟩ := h.own
  simp only [List.length_nil] at c0
  clear h
  go_enter Tryz.func9, Tryz.ntmps9
  go_wp2
  go_ret
  exact ⟨rfl, rfl⟩
/-- What a clock is behind a draw. -/
def Drawn (w w' : World) (base B T most : Nat) (s : Value) (D : List Nat) : Prop := ∃ s', ClockAt w' base B T most s' D ∧ s'.ownBlock = s.ownBlock ∧ Turns (fun k => k = B) w w'
theorem draw_some {d : Nat} (h : ClockAt w base B T most s (d :: D)) : Calls Tryz.prog 9 #[Pt B] w fun e w' => e = .returned (.int .u64 (brt d most : Nat)) ∧ Drawn w w' base B T most s D := by
  have c2 : w.cell? ⟨B, 2, none⟩ = some s := cell_row h.row 2
  have c1 : w.cell? ⟨B, 1, none⟩ = some (.int .u64 most) := cell_row h.row 1
  have f2 : w.frozen? ⟨B, 2, none⟩ = false := froz_row h.row 2
  obtain ⟨g, o, cap, rfl, cg, hc1, hc2, ht⟩ := h.own.tail
  unfold uv at cg
  have hq := fun W => brought_any d most (h.nums.all d (by simp)) h.nums.m W
  have hlen := h.nums.len
  simp only [List.length_cons] at hlen
  unfold maxLen at hc2
  have H := Lib.hid h; have HQ := Lib.hid hq; have HT := Lib.hid ht
  clear h hq ht
  generalize brt d most = x at *
  have hfin : ∀ o', Row w base (.slice (some ⟨g, o', none⟩) D.length (cap - 1)) D → Drawn w (w.setCell ⟨B, 2, none⟩ (.slice (some ⟨g, o', none⟩) D.length (cap - 1))) base B T most (.slice (some ⟨g, o, none⟩) (D.length + 1) cap) D := fun o' hr => by
    have t : Turns (fun k => k = B) w (w.setCell ⟨B, 2, none⟩ (.slice (some ⟨g, o', none⟩) D.length (cap - 1))) := (Turns.refl _ w).setCell _ _ rfl
    have hne : g ≠ B := fun e => H.out.ne (by rw [← e]; rfl)
    refine ⟨_, ⟨⟨H.out.nums.t, H.out.nums.m, by omega, fun x hx => H.out.nums.all x (by simp [hx])⟩, row_set H.out.row 2 _, hr.keep t ?_, ?_⟩, rfl, t⟩
    · intro g' hg e
      have : g = g' := by simpa [Value.ownBlock] using hg
      exact hne (this.trans e)
    · intro e
      exact hne (by simpa [Value.ownBlock] using e)
  have HF := Lib.hid hfin
  clear hfin
  by_cases hcap : cap = 1
  · subst hcap
    rw [if_pos rfl] at HT
    obtain rfl : D = [] := List.eq_nil_of_length_eq_zero (by omega)
    go_enter Tryz.func9, Tryz.ntmps9
    go_wp2_with (first
      | (go_at_call 37; refine (HQ.out _).mono ?_; rintro e w' ⟨rfl, rfl⟩))
    go_ret
    exact ⟨rfl, HF.out _ HT.out⟩
  · rw [if_neg hcap] at HT
    go_enter Tryz.func9, Tryz.ntmps9
    go_wp2_with (first
      | (go_at_call 37; refine (HQ.out _).mono ?_; rintro e w' ⟨rfl, rfl⟩))
    go_ret
    exact ⟨rfl, HF.out _ HT.out⟩
end
end Go.Proofs.YthafnphpcdbnlaaGreatDoor.S3
set_option linter.unusedVariables false
set_option linter.unusedSimpArgs false
namespace Go.Proofs.YthafnphpcdbnlaaGreatDoor.S3
open Go.Proofs.YthafnphpcdbnlaaGreatDoor
open Go.RowKit

section
variable {P : Program} {w : World}
theorem wp_append_row {o : Oper} {a : Act} {K : Act → World → Prop} {Q : Exit → Act → World → Prop} (s x : Operand)
    (ho : o.op = .call { callee := .builtin .append, args := #[s, x], argTypes := #[23, 23] }) {base : Nat} {v : Value} {D : List Nat} (hs : a.eval s = v) (h : Row w base v D) (hbase : base ≤ w.heap.size)
    {b2 : Nat} {A : Option Addr} {n : Nat} {E : List Nat} (c : Nat) (hx : a.eval x = .slice A n c) (hn : n = E.length) (hr : Rd w b2 A E) (hlen : D.length + E.length ≤ 1000000)
    (hK : ∀ v' w', Row w' base v' (D ++ E) → Turns (fun k => v.ownBlock = some k) w w' → (v'.ownBlock = v.ownBlock ∨ v'.ownBlock = some w.heap.size) → K (a.put o.dst v') w') : o.wp Tryz.prog a w K Q := by
  subst hn
  obtain ⟨v', w', hrun, h2, h3, h4⟩ := row_append h hbase c hr hlen o.type
  unfold Oper.wp execOp
  simp only [ho, resolve, invoke, builtin, Sem.run_bind, Sem.run_pure, Result.andThen_ok, List.map_toArray, List.map_cons, List.map_nil, hs, hx, hrun]
  exact hK v' w' h2 h3 h4
theorem wpList_append_row {ops : Array Oper} {rest : List Oper} {o : Oper} {a : Act} {Q : Exit → Act → World → Prop} (hgd : o.guard = none) (s x : Operand)
    (ho : o.op = .call { callee := .builtin .append, args := #[s, x], argTypes := #[23, 23] }) {base : Nat} {v : Value} {D : List Nat} (hs : a.eval s = v) (h : Row w base v D) (hbase : base ≤ w.heap.size)
    {b2 : Nat} {A : Option Addr} {n : Nat} {E : List Nat} (c : Nat) (hx : a.eval x = .slice A n c) (hn : n = E.length) (hr : Rd w b2 A E) (hlen : D.length + E.length ≤ 1000000)
    (hK : ∀ v' w', Row w' base v' (D ++ E) → Turns (fun k => v.ownBlock = some k) w w' → (v'.ownBlock = v.ownBlock ∨ v'.ownBlock = some w.heap.size) → wpList Tryz.prog ops Q rest (a.put o.dst v') w') : wpList Tryz.prog ops Q (o :: rest) a w :=
  wpList_plain hgd fun _ hK' => wp_append_row s x ho hs h hbase c hx hn hr hlen fun v' w' h2 h3 h4 => hK' _ _ (hK v' w' h2 h3 h4)
theorem step_append_row {ops : Array Oper} {o : Oper} {a : Act} {K : Act → World → Prop} {Q : Exit → Act → World → Prop} {F : Prop} (hgd : o.guard = none) (s x : Operand)
    (ho : o.op = .call { callee := .builtin .append, args := #[s, x], argTypes := #[23, 23] }) {base : Nat} {v : Value} {D : List Nat} (hs : a.eval s = v) (h : Row w base v D) (hbase : base ≤ w.heap.size)
    {b2 : Nat} {A : Option Addr} {n : Nat} {E : List Nat} (c : Nat) (hx : a.eval x = .slice A n c) (hn : n = E.length) (hr : Rd w b2 A E) (hlen : D.length + E.length ≤ 1000000)
    (hK : ∀ v' w', Row w' base v' (D ++ E) → Turns (fun k => v.ownBlock = some k) w w' → (v'.ownBlock = v.ownBlock ∨ v'.ownBlock = some w.heap.size) → K (a.put o.dst v') w') :
    if Region.wanted o (yielded ops a.tmps) = true then Oper.wp Tryz.prog o a w K Q else F := by
  have hw : Region.wanted o (yielded ops a.tmps) = true := by simp [Region.wanted, hgd]
  rw [if_pos hw]
  exact wp_append_row s x ho hs h hbase c hx hn hr hlen hK
end
theorem Row.shape {w : World} {base : Nat} {s : Value} {D : List Nat} (h : Row w base s D) : ∃ A cap, s = .slice A D.length cap := let ⟨A, cap, e, _⟩ := h; ⟨A, cap, e⟩
/-- What a clock is behind a call that turned it. -/
def Leaves (w w' : World) (base B T most : Nat) (s : Value) (D : List Nat) : Prop := ∃ s', ClockAt w' base B T most s' D ∧ (s'.ownBlock = s.ownBlock ∨ s'.ownBlock = some w.heap.size) ∧ Turns (fun k => k = B ∨ s.ownBlock = some k) w w'
theorem Nums.more {T most : Nat} {D E : List Nat} (h : Nums T most D) (hE : ∀ d ∈ E, d ≤ 18446744073709551615) : Nums T most (D ++ E.take (65536 - D.length)) := by
  have := h.len
  refine ⟨h.t, h.m, by rw [List.length_append, List.length_take]; omega, fun d hd => ?_⟩
  rcases List.mem_append.1 hd with hd | hd
  · exact h.all d hd
  · exact hE d (List.mem_of_mem_take hd)
theorem leaves_more {w w3 : World} {base B T most : Nat} {s s3 : Value} {D F : List Nat} (h : ClockAt w base B T most s D) (hN : Nums T most F) (hr3 : Row w3 base s3 F) (ht3 : Turns (fun k => s.ownBlock = some k) w.drew w3) (ho3 : s3.ownBlock = s.ownBlock ∨ s3.ownBlock = some w.drew.heap.size) :
    Leaves w (w3.setCell ⟨B, 2, none⟩ s3) base B T most s F := by
  have t0 : Turns (fun k => s.ownBlock = some k) w w3 := ⟨ht3.os, ht3.tape, ht3.output, ht3.size, ht3.block⟩
  have t1 : Turns (fun k => k = B) w3 (w3.setCell ⟨B, 2, none⟩ s3) := (Turns.refl _ _).setCell _ _ rfl
  have hne3 : s3.ownBlock ≠ some B := by
    rcases ho3 with e | e
    · rw [e]; exact h.ne
    · rw [e]
      intro e'
      have e2 : w.drew.heap.size = B := by injection e'
      have := h.lt
      rw [show w.drew.heap.size = w.heap.size from rfl] at e2
      omega
  refine ⟨s3, ⟨hN, ?_, hr3.keep t1 (fun g hg e => hne3 (by rw [hg, e])), hne3⟩, ho3, (t0.mono (fun k _ e => .inr e)).trans t1 (fun k _ e => .inl e)⟩
  exact row_set (((t0.block B h.lt h.ne)).trans h.row) 2 _
attribute [local go_sem ↓] Go.wp_at_zero Go.wp_at_succ
end Go.Proofs.YthafnphpcdbnlaaGreatDoor.S3
set_option linter.unusedVariables false
set_option linter.unusedSimpArgs false
namespace Go.Proofs.YthafnphpcdbnlaaGreatDoor
theorem laidOut : laidOutB Tryz.prog = true := by kernel_rfl
namespace S10
open Go.ChangeShapes Go.WideShapes Go.ChangeAt Go.RowKit Go.Deep
theorem u_of {k : IntKind} {a : Int} (h0 : k.min = 0) (h : (Lit.int k a).wf = true) : ∃ n : Nat, a = n ∧ (n : Int) ≤ k.max := by
  simp [Lit.wf, h0] at h
  obtain ⟨n, rfl⟩ := Int.eq_ofNat_of_zero_le h.1
  exact ⟨n, rfl, h.2⟩
end S10
namespace S3
open Go.ChangeShapes Go.WideShapes Go.ChangeAt Go.RowKit Go.Deep
theorem cells22 : Tryz.prog.cellsOf 22 = 1 := by kernel_rfl
section
variable {H : Type} {enc : TypeId × Value → H} {W : World}
theorem u64_of {a : Int} (h : (Lit.int .u64 a).wf = true) : ∃ n : Nat, a = n ∧ n ≤ 18446744073709551615 := by
  simp [Lit.wf, IntKind.min, IntKind.max, IntKind.bits, IntKind.signed] at h
  obtain ⟨n, rfl⟩ := Int.eq_ofNat_of_zero_le h.1
  exact ⟨n, rfl, by omega⟩
theorem spot_none {w : World} {a : Addr} {v : Value} (h : w.cell? a = some v) : a.spot = none := by
  unfold World.cell? at h
  cases hs : a.spot with
  | none => rfl
  | some s =>
    exfalso
    cases hb : w.heap[a.block]? with
    | none => simp [hb] at h
    | some x => cases x <;> simp [hb, hs] at h
theorem open_list {fuel : Nat} {cs : List Value} {x : DataW H × List MemPlace} (h : DataW.trod enc Tryz.prog W 0 (fun _ => true) true fuel 23 cs = some x) :
    ∃ A c L, cs = [.slice A L.length c] ∧ L.length ≤ c ∧ c ≤ 9223372036854775807 ∧ Rd W W.heap.size A L ∧ ∀ d ∈ L, d ≤ 18446744073709551615 := by
  rcases open_ints Tryz.underlying23 Tryz.underlying22 cells22 h with ⟨rfl, _⟩ | ⟨a, len, cap, zs, rfl, _, hl, hc, hzl, _, hcell, hwf⟩
  · exact ⟨none, 0, [], rfl, Nat.le_refl _, by omega, Rd.nil, by simp⟩
  · simp at hzl
    unfold maxLen at hc
    have hex : ∀ z ∈ zs.take len, ∃ n : Nat, z = n ∧ n ≤ 18446744073709551615 := fun z hz => u64_of (hwf z (List.mem_of_mem_take hz))
    have hlen : ((zs.take len).map Int.toNat).length = len := by simp; omega
    have hget : ∀ i, i < len → (((zs.take len).map Int.toNat)[i]! : Int) = zs.getD i 0 := fun i hi => by
      have h1 : i < ((zs.take len).map Int.toNat).length := by omega
      have h2 : i < zs.length := by omega
      rw [getElem!_pos _ i h1, List.getElem_map, List.getElem_take, List.getD_eq_getElem?_getD, List.getElem?_eq_getElem h2]
      obtain ⟨n, e, _⟩ := u64_of (hwf _ (List.getElem_mem h2))
      simp [e]
    refine ⟨some a, cap, (zs.take len).map Int.toNat, by rw [hlen], by omega, by omega, fun hp => ?_, fun d hd => ?_⟩
    · rw [hlen] at hp
      obtain ⟨b, o, spot⟩ := a
      have h0 := hcell 0 (by omega)
      have hs : spot = none := by
        have := spot_none h0
        simpa [Addr.add] using this
      subst hs
      refine ⟨b, o, rfl, ?_, fun i hi => ?_⟩
      · rw [add_none] at h0
        exact World.block_lt_of_cell? W _ h0
      · rw [hlen] at hi
        have h1 := hcell i (by omega)
        rw [add_none] at h1
        rw [h1]
        unfold uv
        rw [hget i hi]
    · obtain ⟨z, hz, rfl⟩ := List.mem_map.1 hd
      obtain ⟨n, rfl, hn⟩ := hex z hz
      simpa using hn
end
end S3
namespace S12
open Go.ChangeShapes Go.WideShapes Go.ChangeAt Go.RowKit Go.Deep
set_option maxRecDepth 100000
theorem nat_of {k : IntKind} {a : Int} {M : Nat} (h0 : k.min = 0) (h1 : k.max = (M : Int)) (h : (Lit.int k a).wf = true) : ∃ n : Nat, a = n ∧ n ≤ M := by
  obtain ⟨n, rfl, hn⟩ := S10.u_of h0 h
  exact ⟨n, rfl, by omega⟩
theorem u8_of {a : Int} (h : (Lit.int .u8 a).wf = true) : ∃ n : Nat, a = n ∧ n < 256 := by
  obtain ⟨n, e, hn⟩ := nat_of (M := 255) rfl rfl h
  exact ⟨n, e, by omega⟩
theorem u32_of {a : Int} (h : (Lit.int .u32 a).wf = true) : ∃ n : Nat, a = n ∧ n < 4294967296 := by
  obtain ⟨n, e, hn⟩ := nat_of (M := 4294967295) rfl rfl h
  exact ⟨n, e, by omega⟩
theorem u64_of {a : Int} (h : (Lit.int .u64 a).wf = true) : ∃ n : Nat, a = n ∧ n < 18446744073709551616 := by
  obtain ⟨n, e, hn⟩ := nat_of (M := 18446744073709551615) rfl rfl h
  exact ⟨n, e, by omega⟩
theorem sz3 : Tryz.prog.cellsOf 3 = 1 := by kernel_rfl
theorem sz22 : Tryz.prog.cellsOf 22 = 1 := by kernel_rfl
theorem sz23 : Tryz.prog.cellsOf 23 = 1 := by kernel_rfl
theorem sz25 : Tryz.prog.cellsOf 25 = 3 := by kernel_rfl
theorem config_cells {H : Type} {enc : TypeId × Value → H} {W : World} {fuel : Nat} {cs : List Value} {x : DataW H × List MemPlace} (h : DataW.trod enc Tryz.prog W 0 (fun _ => true) true fuel 25 cs = some x) :
    ∃ c0 c1 dA dc D, cs = [.int .i64 c0, .int .u64 c1, .slice dA D.length dc] ∧ (Lit.int .i64 c0).wf = true ∧ (Lit.int .u64 c1).wf = true ∧ D.length ≤ dc ∧ dc ≤ 9223372036854775807 ∧ S3.Rd W W.heap.size dA D ∧ (∀ d ∈ D, d ≤ 18446744073709551615) := by
  obtain ⟨xs, m, _, _, hlen, hxl, hf⟩ := DataW.trod_struct Tryz.underlying25 h
  rw [sz25] at hlen
  obtain ⟨a0, a1, a2, rfl⟩ : ∃ a0 a1 a2, cs = [a0, a1, a2] := by
    match cs, hlen with
    | [a0, a1, a2], _ => exact ⟨a0, a1, a2, rfl⟩
  have sm : ∀ i, i < 3 → ∃ y, xs[i]? = some y := fun i hi => ⟨xs[i]'(by rw [hxl]; exact hi), List.getElem?_eq_getElem _⟩
  obtain ⟨y0, e0⟩ := sm 0 (by omega)
  have h0 : DataW.trod enc Tryz.prog W 0 (fun _ => true) true m 3 (List.take (Tryz.prog.cellsOf 3) [a0, a1, a2]) = xs[0]? := hf 0 _ rfl
  rw [sz3, e0] at h0
  obtain ⟨y1, e1⟩ := sm 1 (by omega)
  have h1 : DataW.trod enc Tryz.prog W 0 (fun _ => true) true m 22 (List.take (Tryz.prog.cellsOf 22) [a1, a2]) = xs[1]? := hf 1 _ rfl
  rw [sz22, e1] at h1
  obtain ⟨y2, e2⟩ := sm 2 (by omega)
  have h2 : DataW.trod enc Tryz.prog W 0 (fun _ => true) true m 23 (List.take (Tryz.prog.cellsOf 23) [a2]) = xs[2]? := hf 2 _ rfl
  rw [sz23, e2] at h2
  obtain ⟨c0, q0, _, f0_0⟩ := DataW.trod_int Tryz.underlying3 h0
  simp at q0
  subst q0
  obtain ⟨c1, q1, _, f1_0⟩ := DataW.trod_int Tryz.underlying22 h1
  simp at q1
  subst q1
  obtain ⟨dA, dc, D, q2, f2_0, f2_1, f2_2, f2_3⟩ := S3.open_list h2
  simp only [List.take, List.cons.injEq, and_true] at q2
  subst q2
  exact ⟨c0, c1, dA, dc, D, rfl, f0_0, f1_0, f2_0, f2_1, f2_2, f2_3⟩
theorem config_open {H : Type} {enc : TypeId × Value → H} {W : World} {v : Value} {d : DataW H} {p : List MemPlace} {r : Reach} {b0 : Nat} (hv : Value.okWide Tryz.prog W r b0 25 v) (h : DataW.Trod enc Tryz.prog W 0 (fun _ => true) true 25 v d p) :
    ∃ c0 c1 dA dc D, v = .agg #[.int .i64 c0, .int .u64 c1, .slice dA D.length dc] ∧ (Lit.int .i64 c0).wf = true ∧ (Lit.int .u64 c1).wf = true ∧ D.length ≤ dc ∧ dc ≤ 9223372036854775807 ∧ S3.Rd W W.heap.size dA D ∧ (∀ d ∈ D, d ≤ 18446744073709551615) := by
  obtain ⟨cs, rfl, hsz⟩ := okWide_struct Tryz.underlying25 hv
  obtain ⟨fuel, ht⟩ := h
  obtain ⟨c0, c1, dA, dc, D, hc, f0, f1, f2, f3, f4, f5⟩ := config_cells ht
  refine ⟨c0, c1, dA, dc, D, ?_, f0, f1, f2, f3, f4, f5⟩
  obtain ⟨l⟩ := cs
  have e : l = _ := hc
  rw [e]
theorem u32_open {H : Type} {enc : TypeId × Value → H} {W : World} {v : Value} {d : DataW H} {p : List MemPlace} {r : Reach} {b0 : Nat} (hv : Value.okWide Tryz.prog W r b0 26 v) (h : DataW.Trod enc Tryz.prog W 0 (fun _ => true) true 26 v d p) : ∃ n : Nat, v = .int .u32 n ∧ n < 4294967296 := by
  obtain ⟨a, rfl, _, _, wa⟩ := open_int Tryz.underlying26 hv h
  obtain ⟨n, rfl, hn⟩ := u32_of wa
  exact ⟨n, rfl, hn⟩
end S12
end Go.Proofs.YthafnphpcdbnlaaGreatDoor
set_option linter.unusedVariables false
set_option linter.unusedSimpArgs false
namespace Go.Proofs.YthafnphpcdbnlaaGreatDoor.S3
open Go.Proofs.YthafnphpcdbnlaaGreatDoor
open Go.RowKit

def Made (w : World) (T most : Nat) (D : List Nat) (e : Ending) (w' : World) : Prop := ∃ B s, e = .returned (Pt B) ∧ w.heap.size ≤ B ∧ ClockAt w' w.heap.size B T most s D ∧ Below w.heap.size w w'
theorem made_new {w w1 : World} {s : Value} {most : Nat} {D : List Nat} (hN : Nums 0 most D) (hr : Row w1 w.heap.size s D) (hb : Below w.heap.size w w1) : Made w 0 most D (.returned (Pt w1.heap.size)) (w1.alloc (.cells #[.int .u64 0, .int .u64 most, s] 106)) := by
  refine ⟨w1.heap.size, s, rfl, hb.size, ⟨hN, heap_alloc_new w1 _, hr.keep ((Turns.refl (fun _ => False) w1).alloc _) (fun _ _ e => e), fun e => ?_⟩, hb.alloc hb.size _⟩
  have := (hr.lt _ e).2
  omega
theorem new_any {w : World} {b2 : Nat} {A : Option Addr} {D : List Nat} (c most : Nat) (hn : D.length ≤ c) (hc : c ≤ 9223372036854775807) (hm : most ≤ 18446744073709551615) (hr : Rd w b2 A D) (hb2 : b2 ≤ w.heap.size) (hD : ∀ d ∈ D, d ≤ 18446744073709551615) :
    Calls Tryz.prog 19 #[.slice A D.length c, .int .u64 most] w (Made w 0 most (D.take 65536)) := by
  have hfi := fun W => first_any A D.length c 65536 hn hc (by omega) W
  have hcp := copied_any A c b2 (D.take 65536) (by rw [List.length_take]; omega) w (hr.take 65536) hb2
  have hmin : min D.length 65536 = (D.take 65536).length := by rw [List.length_take, Nat.min_comm]
  have hN : Nums 0 most (D.take 65536) := ⟨by omega, hm, by rw [List.length_take]; omega, fun d hd => hD d (List.mem_of_mem_take hd)⟩
  generalize D.take 65536 = E at *
  rw [hmin] at hfi
  have HFI := Lib.hid hfi; have HCP := Lib.hid hcp; have HN := Lib.hid hN
  clear hfi hcp hmin hN hr hD
  go_enter Tryz.func19, Tryz.ntmps19
  go_wp2_with (first
    | (go_at_call 48; refine (HFI.out _).mono ?_; rintro e w1 ⟨rfl, rfl⟩)
    | (go_at_call 47; refine HCP.out.mono ?_; rintro e w1 ⟨s, rfl, hr1, hb1⟩; obtain ⟨A1, cap1, hs1⟩ := hr1.shape; subst hs1))
  go_ret
  exact made_new HN.out hr1 hb1
/-- A clock whose blocks all lie from base on. -/
structure Own (w : World) (base B T most : Nat) (D : List Nat) : Prop where
  size : base ≤ w.heap.size
  from_ : base ≤ B
  own : ∃ s, ClockAt w base B T most s D
section
variable {w w' : World} {base B T most : Nat} {D : List Nat}
theorem Own.nums (h : Own w base B T most D) : Nums T most D := let ⟨_, c⟩ := h.own; c.nums
theorem Own.lt (h : Own w base B T most D) : B < w.heap.size := let ⟨_, c⟩ := h.own; c.lt
theorem Own.new (h : Own w base B T most D) (b : Below w.heap.size w w') : Own w' base B T most D :=
  let ⟨s, c⟩ := h.own; ⟨Nat.le_trans h.size b.size, h.from_, s, c.new b⟩
theorem Own.drewN (h : Own w base B T most D) (k : Nat) : Own (w.drewN k) base B T most D := h.new ⟨rfl, rfl, rfl, Nat.le_refl _, fun _ _ => rfl⟩
theorem Leaves.own {s : Value} {T' : Nat} {D' : List Nat} (h : Own w base B T most D) (c : ClockAt w base B T most s D) (l : Leaves w w' base B T' most s D') : Own w' base B T' most D' ∧ Below base w w' := by
  obtain ⟨s', c', _, t⟩ := l
  refine ⟨⟨Nat.le_trans h.size t.size, h.from_, s', c'⟩, t.below h.size (fun k hk e => ?_)⟩
  have := h.from_
  rcases e with rfl | e
  · omega
  · have := (c.own.lt k e).1; omega
theorem Made.own {w : World} {T most : Nat} {D : List Nat} {e : Ending} {w' : World} (h : Made w T most D e w') : ∃ B, e = .returned (Pt B) ∧ w.heap.size ≤ B ∧ Own w' w.heap.size B T most D ∧ Below w.heap.size w w' :=
  let ⟨B, s, he, hB, c, b⟩ := h; ⟨B, he, hB, ⟨b.size, hB, s, c⟩, b⟩
theorem own_now (h : Own w base B T most D) : Calls Tryz.prog 31 #[Pt B] w fun e w' => e = .returned (.int .u64 T) ∧ w = w' := let ⟨_, c⟩ := h.own; now_any c
theorem own_left (h : Own w base B T most D) : Calls Tryz.prog 59 #[Pt B] w fun e w' => e = .returned (.int .i64 (D.length : Nat)) ∧ w = w' := let ⟨_, c⟩ := h.own; left_any c
theorem own_draw_none (h : Own w base B T most []) : Calls Tryz.prog 9 #[Pt B] w fun e w' => e = .returned (.int .u64 0) ∧ w = w' := let ⟨_, c⟩ := h.own; draw_none c
theorem own_draw {d : Nat} (h : Own w base B T most (d :: D)) : Calls Tryz.prog 9 #[Pt B] w fun e w' => e = .returned (.int .u64 (brt d most : Nat)) ∧ Own w' base B T most D ∧ Below base w w' := by
  obtain ⟨s, c⟩ := h.own
  refine (draw_some c).mono fun e w' ⟨he, s', c', e', t⟩ => ⟨he, Leaves.own h c ⟨s', c', .inl e', t.mono (fun _ _ e => .inl e)⟩⟩
end
theorem eq31 (a b : Bool) (x y : Int) (w : World) : (binOp .eql 122 (.agg #[.bool a, .int .u64 x]) (.agg #[.bool b, .int .u64 y])).run Tryz.prog w = .ok (.bool ((a == b) && (x == y))) w := by
  simp [go_sem, Tryz.underlying122]
  by_cases h1 : a = b <;> by_cases h2 : x = y <;> simp [h1, h2]
theorem neq31 (a b : Bool) (x y : Int) (w : World) : (binOp .neq 122 (.agg #[.bool a, .int .u64 x]) (.agg #[.bool b, .int .u64 y])).run Tryz.prog w = .ok (.bool (!((a == b) && (x == y)))) w := by
  simp [go_sem, Tryz.underlying122]
  by_cases h1 : a = b <;> by_cases h2 : x = y <;> simp [h1, h2]
end Go.Proofs.YthafnphpcdbnlaaGreatDoor.S3
