/- Over, Got, New of an Enter and an Own. -/
import Derived.Test.YthafnphpcdbnlaaGreatS15G0
set_option linter.unusedVariables false
set_option linter.unusedSimpArgs false
namespace Go.Proofs.YthafnphpcdbnlaaGreat.S15
open Go.Proofs.YthafnphpcdbnlaaGreat Go.Proofs.YthafnphpcdbnlaaGreat.S11 Go.Proofs.YthafnphpcdbnlaaGreat.S12 Go.Proofs.YthafnphpcdbnlaaGreat.S13 Go.Proofs.YthafnphpcdbnlaaGreat.S14
open Go.RowKit

section
variable {w0 w w' : World} {base WB : Nat} {M : Sd} {r : List Part} {j u U : Nat} {o : Bool} {t kw tw : Nat} {Z : Wb} {X : Wm}
set_option maxRecDepth 100000 in
theorem wover_any (h : Wy w0 w base WB M r j o t kw tw Z X) : Calls Tryz.prog 44 #[Pw Z.B] w fun e w' => e = .returned (.bool (decide ((nPart o : Int) ≤ Z.i))) ∧ Below w.heap.size w w' := by
  have c0 := h.c.1; have c1 := h.c.2.1
  generalize Z.i = i at *
  generalize nPart o = n at *
  clear h
  by_cases g : (n : Int) ≤ i
  · rw [decide_eq_true g]
    have d1 : decide ((n : Int) ≤ i) = true := decide_eq_true g
    go_enter Tryz.func44, Tryz.ntmps44
    go_upto_region 1 with (fail)
    go_quiet (fail)
    go_wp2_with fail
    go_ret
    exact ⟨rfl, below_n _ _⟩
  · rw [decide_eq_false g]
    have d1 : decide ((n : Int) ≤ i) = false := decide_eq_false g
    go_enter Tryz.func44, Tryz.ntmps44
    go_upto_region 1 with (fail)
    go_quiet (fail)
    go_wp2_with fail
    go_ret
    exact ⟨rfl, below_n _ _⟩
set_option maxRecDepth 100000 in
theorem eover_any (h : Wy w0 w base WB M r j o t kw tw Z X) : Calls Tryz.prog 26 #[Pw Z.B] w fun e w' => e = .returned (.bool (decide ((nPart o : Int) ≤ Z.i))) ∧ Below w.heap.size w w' := by
  have HW := Lib.hid (wover_any h)
  clear h
  generalize decide ((nPart o : Int) ≤ Z.i) = b at *
  go_enter Tryz.func26, Tryz.ntmps26
  go_wp2_with (go_at_call 44; refine HW.out.mono ?_; rintro e w1 ⟨rfl, hb⟩)
  go_ret
  exact ⟨rfl, hb⟩
set_option maxRecDepth 100000 in
theorem oover_any (h : Wy w0 w base WB M r j o t kw tw Z X) : Calls Tryz.prog 24 #[Pw Z.B] w fun e w' => e = .returned (.bool (decide ((nPart o : Int) ≤ Z.i))) ∧ Below w.heap.size w w' := by
  have HW := Lib.hid (wover_any h)
  clear h
  generalize decide ((nPart o : Int) ≤ Z.i) = b at *
  go_enter Tryz.func24, Tryz.ntmps24
  go_wp2_with (go_at_call 44; refine HW.out.mono ?_; rintro e w1 ⟨rfl, hb⟩)
  go_ret
  exact ⟨rfl, hb⟩
theorem eover_nil (w : World) : Calls Tryz.prog 26 #[.pointer none] w fun e w' => e = .returned (.bool true) ∧ w = w' := by
  go_enter Tryz.func26, Tryz.ntmps26
  go_wp2_with fail
  go_ret
  exact ⟨rfl, rfl⟩
theorem oover_nil (w : World) : Calls Tryz.prog 24 #[.pointer none] w fun e w' => e = .returned (.bool true) ∧ w = w' := by
  go_enter Tryz.func24, Tryz.ntmps24
  go_wp2_with fail
  go_ret
  exact ⟨rfl, rfl⟩
theorem Wy.turnLast {Q : Nat} {ob : Obj} (h : Wy w0 w base WB M (r ++ [blockP Q ob]) j o t kw tw Z X) (hj : j < r.length) (ob' : Obj) (hq : w'.heap[Q]? = some ob') (tn : Turns (fun k => k = Q) w w') : Wy w0 w' base WB M (r ++ [blockP Q ob']) j o t kw tw Z X := by
  have hi : ((r ++ [blockP Q ob]).set j (wayP o t kw tw Z))[r.length]? = some (blockP Q ob) := by
    rw [List.set_append_left _ _ hj, List.getElem?_append_right (by rw [List.length_set]; exact Nat.le_refl _), List.length_set, Nat.sub_self]; rfl
  have h2 := h.pg.turn hi (blockP Q ob') hq tn (fun k e => .inl e)
  rw [List.set_append_left _ _ hj] at h2
  rw [List.set_append_right _ _ (by rw [List.length_set]; exact Nat.le_refl _), List.length_set, Nat.sub_self] at h2
  refine ⟨?_, by rw [List.length_append]; simp; omega⟩
  rw [List.set_append_left _ _ hj]
  exact h2
theorem below_turn {w w1 w2 w3 : World} {Q : Nat} (h1 : Below w.heap.size w w1) (h2 : Below w1.heap.size w1 w2) (ht : Turns (fun k => k = Q) w2 w3) (hQ : Q = w.heap.size) : Below w.heap.size w w3 := by
  have hb := h1.trans (h2.mono h1.size)
  exact hb.trans (ht.below hb.size (fun k hk e => by have h1 : k = Q := e; omega))
abbrev plV (b i : Int) : Value := .agg #[.int .i64 b, .int .i64 i]
set_option maxRecDepth 100000 in
set_option maxHeartbeats 4000000 in
/-- What was got, when it is over. -/
theorem wgot_yes (h : Wy w0 w base WB M r j o t kw tw Z X) (hi : (nPart o : Int) ≤ Z.i) : Calls Tryz.prog 40 #[Pw Z.B] w fun e w' => e = .returned (.tuple #[plV Z.pb Z.pi, .int .u32 ((kw % 4294967296 : Nat) : Int)]) ∧ Below w.heap.size w w' := by
  have hj := h.hj
  have HB := Lib.hid (below1 w (.cells #[.int .i64 0, .int .i64 0] 64))
  have hA := h.pushB (.cells #[.int .i64 0, .int .i64 0] 64)
  have hov := fun (W : World) (hb : Below w.heap.size w W) => wover_any (h.new hb)
  rw [decide_eq_true hi] at hov
  have hov1 := hov _ (below1 w (.cells #[.int .i64 0, .int .i64 0] 64))
  obtain ⟨Q, hQ⟩ : ∃ Q, Q = w.heap.size := ⟨_, rfl⟩
  rw [← hQ] at hA
  obtain ⟨b, hb⟩ : ∃ b, b = Z.pb := ⟨_, rfl⟩
  obtain ⟨i, hpi⟩ : ∃ i, i = Z.pi := ⟨_, rfl⟩
  have ew : IntKind.u32.wrap (kw : Int) = ((kw % 4294967296 : Nat) : Int) := by rw [IntKind.wrap_u32]; omega
  have c3 := hA.c.2.2.2.1
  have HOV := Lib.hid hov1; have HA := Lib.hid hA; have HJ := Lib.hid hj; have HBI := Lib.hid (And.intro hb hpi); have HQ := Lib.hid hQ
  rw [← hb, ← hpi]
  obtain ⟨ky, hky⟩ : ∃ ky, ky = kw % 4294967296 := ⟨_, rfl⟩
  rw [← hky] at ew ⊢
  clear h hov hov1 hi hj hA hQ hb hpi hky
  go_enter Tryz.func40, Tryz.ntmps40
  go_upto_region 1 with (fail)
  rw [← HQ.out]
  generalize w.alloc (.cells #[.int .i64 0, .int .i64 0] 64) = w1 at *
  go_upto_region 3 with (go_at_call 44; refine HOV.out.mono ?_; rintro e w2 ⟨rfl, hb2⟩; have H2 := Lib.hid (HA.out.new hb2); have HB2 := Lib.hid hb2; have c3 := (HA.out.new hb2).c.2.2.2.1; clear hb2)
  clear c3
  refine wp_region_held_drew (S := fun w' => w'.cell? ⟨Z.B, 5, none⟩ = some (.int .i64 b) ∧ w'.cell? ⟨Z.B, 6, none⟩ = some (.int .i64 i) ∧ w'.cell? ⟨Z.B, 3, none⟩ = some (Pw Z.KB) ∧ w'.cell? ⟨Z.KB, 2, none⟩ = some (.int .u64 (kw : Int))) (by kernel_rfl) ?_ (fun hHeld => ?_)
  · exact ⟨by rw [HBI.out.1]; exact (H2.out.new (Below.refl _ _).drew).c.2.2.2.2.2.1, by rw [HBI.out.2]; exact (H2.out.new (Below.refl _ _).drew).c.2.2.2.2.2.2.1, (H2.out.new (Below.refl _ _).drew).c.2.2.2.1, (H2.out.new (Below.refl _ _).drew).kc.2⟩
  refine wpAnyH_take (i := 0) (oi := ({ dst := some 16, op := Op.move (Operand.tmp 0), type := 157, pos := "parts.go:68", after := #[], guard := none } : Oper)) (v := ?vgm1) rfl (by kernel_rfl) (by kernel_rfl) (by kernel_rfl) (fun _ _ _ h => h) (Or.inl ⟨by rfl, fun w hSw => ?hygm1⟩) (by assumption) ?rgm1
  case hygm1 => (try dsimp only at hSw); go_simp; (try with_reducible rfl)
  (try simp only [Act.put, List.setIfInBounds_toArray, List.set_cons_zero, List.set_cons_succ])
  refine wpAnyH_take (i := 1) (oi := ({ dst := some 17, op := Op.nilCheck (Operand.tmp 16), type := 0, pos := "parts.go:68", after := #[{ on := 0, ground := Ground.data }], guard := none } : Oper)) (v := ?vgm2) rfl (by kernel_rfl) (by kernel_rfl) (by kernel_rfl) (fun _ _ _ h => h) (Or.inl ⟨by rfl, fun w hSw => ?hygm2⟩) (by assumption) ?rgm2
  case hygm2 => (try dsimp only at hSw); go_simp; (try with_reducible rfl)
  (try simp only [Act.put, List.setIfInBounds_toArray, List.set_cons_zero, List.set_cons_succ])
  refine wpAnyH_take (i := 2) (oi := ({ dst := some 18, op := Op.fieldAddr 109 (Operand.tmp 17) 2, type := 0, pos := "parts.go:68", after := #[{ on := 1, ground := Ground.data }], guard := none } : Oper)) (v := ?vgm3) rfl (by kernel_rfl) (by kernel_rfl) (by kernel_rfl) (fun _ _ _ h => h) (Or.inl ⟨by rfl, fun w hSw => ?hygm3⟩) (by assumption) ?rgm3
  case hygm3 => (try dsimp only at hSw); go_simp; (try with_reducible rfl)
  (try simp only [Act.put, List.setIfInBounds_toArray, List.set_cons_zero, List.set_cons_succ])
  refine wpAnyH_take (i := 3) (oi := ({ dst := some 19, op := Op.fieldAddr 107 (Operand.tmp 18) 3, type := 0, pos := "parts.go:68", after := #[{ on := 2, ground := Ground.data }], guard := none } : Oper)) (v := ?vgm4) rfl (by kernel_rfl) (by kernel_rfl) (by kernel_rfl) (fun _ _ _ h => h) (Or.inl ⟨by rfl, fun w hSw => ?hygm4⟩) (by assumption) ?rgm4
  case hygm4 => (try dsimp only at hSw); go_simp; (try with_reducible rfl)
  (try simp only [Act.put, List.setIfInBounds_toArray, List.set_cons_zero, List.set_cons_succ])
  refine wpAnyH_take (i := 4) (oi := ({ dst := some 20, op := Op.load 64 (Operand.tmp 19), type := 64, pos := "parts.go:68", after := #[{ on := 3, ground := Ground.data }], guard := none } : Oper)) (v := ?vgm5) rfl (by kernel_rfl) (by kernel_rfl) (by kernel_rfl) (fun _ _ _ h => h) (Or.inl ⟨by rfl, fun w hSw => ?hygm5⟩) (by assumption) ?rgm5
  case hygm5 => (try dsimp only at hSw); go_simp; (try with_reducible rfl)
  (try simp only [Act.put, List.setIfInBounds_toArray, List.set_cons_zero, List.set_cons_succ])
  refine wpAnyH_take (i := 5) (oi := ({ dst := some 21, op := Op.move (Operand.tmp 0), type := 157, pos := "parts.go:68", after := #[{ on := 14, ground := Ground.gcOnly Departure.lateStores }], guard := none } : Oper)) (v := ?vgm6) rfl (by kernel_rfl) (by kernel_rfl) (by kernel_rfl) (fun _ _ _ h => h) (Or.inl ⟨by rfl, fun w hSw => ?hygm6⟩) (by assumption) ?rgm6
  case hygm6 => (try dsimp only at hSw); go_simp; (try with_reducible rfl)
  (try simp only [Act.put, List.setIfInBounds_toArray, List.set_cons_zero, List.set_cons_succ])
  refine wpAnyH_take (i := 6) (oi := ({ dst := some 22, op := Op.nilCheck (Operand.tmp 21), type := 0, pos := "parts.go:68", after := #[{ on := 5, ground := Ground.data }, { on := 14, ground := Ground.gcOnly Departure.lateStores }], guard := none } : Oper)) (v := ?vgm7) rfl (by kernel_rfl) (by kernel_rfl) (by kernel_rfl) (fun _ _ _ h => h) (Or.inl ⟨by rfl, fun w hSw => ?hygm7⟩) (by assumption) ?rgm7
  case hygm7 => (try dsimp only at hSw); go_simp; (try with_reducible rfl)
  (try simp only [Act.put, List.setIfInBounds_toArray, List.set_cons_zero, List.set_cons_succ])
  refine wpAnyH_take (i := 7) (oi := ({ dst := some 23, op := Op.fieldAddr 109 (Operand.tmp 22) 2, type := 0, pos := "parts.go:68", after := #[{ on := 6, ground := Ground.data }, { on := 14, ground := Ground.gcOnly Departure.lateStores }], guard := none } : Oper)) (v := ?vgm8) rfl (by kernel_rfl) (by kernel_rfl) (by kernel_rfl) (fun _ _ _ h => h) (Or.inl ⟨by rfl, fun w hSw => ?hygm8⟩) (by assumption) ?rgm8
  case hygm8 => (try dsimp only at hSw); go_simp; (try with_reducible rfl)
  (try simp only [Act.put, List.setIfInBounds_toArray, List.set_cons_zero, List.set_cons_succ])
  refine wpAnyH_take (i := 8) (oi := ({ dst := some 24, op := Op.fieldAddr 107 (Operand.tmp 23) 1, type := 0, pos := "parts.go:68", after := #[{ on := 7, ground := Ground.data }, { on := 14, ground := Ground.gcOnly Departure.lateStores }], guard := none } : Oper)) (v := ?vgm9) rfl (by kernel_rfl) (by kernel_rfl) (by kernel_rfl) (fun _ _ _ h => h) (Or.inl ⟨by rfl, fun w hSw => ?hygm9⟩) (by assumption) ?rgm9
  case hygm9 => (try dsimp only at hSw); go_simp; (try with_reducible rfl)
  (try simp only [Act.put, List.setIfInBounds_toArray, List.set_cons_zero, List.set_cons_succ])
  refine wpAnyH_take (i := 9) (oi := ({ dst := some 25, op := Op.load 103 (Operand.tmp 24), type := 103, pos := "parts.go:68", after := #[{ on := 8, ground := Ground.data }, { on := 14, ground := Ground.gcOnly Departure.lateStores }], guard := none } : Oper)) (v := ?vgm10) rfl (by kernel_rfl) (by kernel_rfl) (by kernel_rfl) (fun _ _ _ h => h) (Or.inl ⟨by rfl, fun w hSw => ?hygm10⟩) (by assumption) ?rgm10
  case hygm10 => (try dsimp only at hSw); go_simp; (try with_reducible rfl)
  (try simp only [Act.put, List.setIfInBounds_toArray, List.set_cons_zero, List.set_cons_succ])
  refine wpAnyH_take (i := 10) (oi := ({ dst := some 26, op := Op.nilCheck (Operand.tmp 25), type := 0, pos := "parts.go:68", after := #[{ on := 9, ground := Ground.data }, { on := 14, ground := Ground.gcOnly Departure.lateStores }], guard := none } : Oper)) (v := ?vgm11) rfl (by kernel_rfl) (by kernel_rfl) (by kernel_rfl) (fun _ _ _ h => h) (Or.inl ⟨by rfl, fun w hSw => ?hygm11⟩) (by assumption) ?rgm11
  case hygm11 => (try dsimp only at hSw); go_simp; (try with_reducible rfl)
  (try simp only [Act.put, List.setIfInBounds_toArray, List.set_cons_zero, List.set_cons_succ])
  refine wpAnyH_take (i := 11) (oi := ({ dst := some 27, op := Op.fieldAddr 113 (Operand.tmp 26) 2, type := 0, pos := "parts.go:68", after := #[{ on := 10, ground := Ground.data }, { on := 14, ground := Ground.gcOnly Departure.lateStores }], guard := none } : Oper)) (v := ?vgm12) rfl (by kernel_rfl) (by kernel_rfl) (by kernel_rfl) (fun _ _ _ h => h) (Or.inl ⟨by rfl, fun w hSw => ?hygm12⟩) (by assumption) ?rgm12
  case hygm12 => (try dsimp only at hSw); go_simp; (try with_reducible rfl)
  (try simp only [Act.put, List.setIfInBounds_toArray, List.set_cons_zero, List.set_cons_succ])
  refine wpAnyH_take (i := 12) (oi := ({ dst := some 28, op := Op.load 36 (Operand.tmp 27), type := 36, pos := "parts.go:68", after := #[{ on := 11, ground := Ground.data }, { on := 14, ground := Ground.gcOnly Departure.lateStores }], guard := none } : Oper)) (v := ?vgm13) rfl (by kernel_rfl) (by kernel_rfl) (by kernel_rfl) (fun _ _ _ h => h) (Or.inl ⟨by rfl, fun w hSw => ?hygm13⟩) (by assumption) ?rgm13
  case hygm13 => (try dsimp only at hSw); go_simp; (try with_reducible rfl)
  (try simp only [Act.put, List.setIfInBounds_toArray, List.set_cons_zero, List.set_cons_succ])
  refine wpAnyH_take (i := 13) (oi := ({ dst := some 29, op := Op.convert 36 30 (Operand.tmp 28), type := 30, pos := "parts.go:68", after := #[{ on := 12, ground := Ground.data }, { on := 14, ground := Ground.gcOnly Departure.lateStores }], guard := none } : Oper)) (v := ?vgm14) rfl (by kernel_rfl) (by kernel_rfl) (by kernel_rfl) (fun _ _ _ h => h) (Or.inl ⟨by rfl, fun w hSw => ?hygm14⟩) (by assumption) ?rgm14
  case hygm14 => (try dsimp only at hSw); go_simp; (try with_reducible rfl)
  (try simp only [Act.put, List.setIfInBounds_toArray, List.set_cons_zero, List.set_cons_succ])
  refine wpAnyH_ready (rs := [14]) (by kernel_rfl) (by simp) ?_
  refine AllReadyH.cons (o := ({ dst := none, op := Op.store 64 (Operand.tmp 2) (Operand.tmp 20), type := 0, pos := "parts.go:68", after := #[{ on := 4, ground := Ground.data }, { on := 0, ground := Ground.phase }, { on := 1, ground := Ground.phase }, { on := 2, ground := Ground.phase }, { on := 3, ground := Ground.phase }, { on := 4, ground := Ground.phase }, { on := 5, ground := Ground.textOnly Departure.lateStores }, { on := 6, ground := Ground.textOnly Departure.lateStores }, { on := 7, ground := Ground.textOnly Departure.lateStores }, { on := 8, ground := Ground.textOnly Departure.lateStores }, { on := 9, ground := Ground.textOnly Departure.lateStores }, { on := 10, ground := Ground.textOnly Departure.lateStores }, { on := 11, ground := Ground.textOnly Departure.lateStores }, { on := 12, ground := Ground.textOnly Departure.lateStores }, { on := 13, ground := Ground.textOnly Departure.lateStores }], guard := none } : Oper)) rfl (fun Kq hKq => ?_) AllReadyH.nil
  (have q0 : w2.cell? ⟨Q, 0, none⟩ = some (.int .i64 0) := cell_row (H2.out.last HJ.out) 0; have q1 : w2.cell? ⟨Q, 1, none⟩ = some (.int .i64 0) := cell_row (H2.out.last HJ.out) 1; have z0 := froz_row (H2.out.last HJ.out) 0; have z1 := froz_row (H2.out.last HJ.out) 1; go_simp; have h3 := H2.out.turnLast HJ.out (.cells #[.int .i64 b, .int .i64 i] 64) (set_blk (set_blk (H2.out.last HJ.out) 0 (.int .i64 b) _ rfl) 1 (.int .i64 i) _ rfl) (((Turns.refl (fun k => k = Q) w2).setCell ⟨Q, 0, none⟩ _ rfl).setCell ⟨Q, 1, none⟩ _ rfl); have H3 := Lib.hid (h3.new (Below.refl _ _).drew); have HT := Lib.hid (((Turns.refl (fun k => k = Q) w2).setCell ⟨Q, 0, none⟩ (.int .i64 b) rfl).setCell ⟨Q, 1, none⟩ (.int .i64 i) rfl); clear q0 q1 z0 z1 h3; generalize (w2.setCell ⟨Q, 0, none⟩ (.int .i64 b)).setCell ⟨Q, 1, none⟩ (.int .i64 i) = w3 at *)
  refine hKq.out _ _ ?_ (fun hHeld => ?_)
  · exact ⟨by rw [HBI.out.1]; exact H3.out.c.2.2.2.2.2.1, by rw [HBI.out.2]; exact H3.out.c.2.2.2.2.2.2.1, H3.out.c.2.2.2.1, H3.out.kc.2⟩
  clear hKq Kq
  (try simp only [Act.put, List.setIfInBounds_toArray, List.set_cons_zero, List.set_cons_succ])
  refine wpAnyH_take (i := 15) (oi := ({ dst := some 3, op := Op.assign (Operand.tmp 29), type := 30, pos := "parts.go:68", after := #[{ on := 13, ground := Ground.data }, { on := 14, ground := Ground.chain }, { on := 0, ground := Ground.phase }, { on := 1, ground := Ground.phase }, { on := 2, ground := Ground.phase }, { on := 3, ground := Ground.phase }, { on := 4, ground := Ground.phase }, { on := 5, ground := Ground.phase }, { on := 6, ground := Ground.phase }, { on := 7, ground := Ground.phase }, { on := 8, ground := Ground.phase }, { on := 9, ground := Ground.phase }, { on := 10, ground := Ground.phase }, { on := 11, ground := Ground.phase }, { on := 12, ground := Ground.phase }, { on := 13, ground := Ground.phase }, { on := 14, ground := Ground.phase }], guard := none } : Oper)) (v := ?vgm15) rfl (by kernel_rfl) (by kernel_rfl) (by kernel_rfl) (fun _ _ _ h => h) (Or.inl ⟨by rfl, fun w hSw => ?hygm15⟩) (by assumption) ?rgm15
  case hygm15 => (try dsimp only at hSw); go_simp; (try with_reducible rfl)
  (try simp only [Act.put, List.setIfInBounds_toArray, List.set_cons_zero, List.set_cons_succ])
  refine wpAnyH_done (by kernel_rfl) ?_ _
  have q0 : w3.cell? ⟨Q, 0, none⟩ = some (.int .i64 b) := cell_row (H3.out.last HJ.out) 0
  have q1 : w3.cell? ⟨Q, 1, none⟩ = some (.int .i64 i) := cell_row (H3.out.last HJ.out) 1
  clear hHeld HOV HA H2 HBI
  go_wp2_with fail
  exact bodyPost_ret (v := .tuple #[plV b i, .int .u32 (ky : Int)]) (by simp [results, Tryz.results40, go_sem, q0, q1]) rfl ⟨rfl, (below_turn HB.out HB2.out HT.out HQ.out).trans (Below.refl _ _).drew⟩
set_option maxRecDepth 100000 in
set_option maxHeartbeats 4000000 in
/-- Nothing was got, as long as it is not over. -/
theorem wgot_no (h : Wy w0 w base WB M r j o t kw tw Z X) (hi : ¬ (nPart o : Int) ≤ Z.i) : Calls Tryz.prog 40 #[Pw Z.B] w fun e w' => e = .returned (.tuple #[plV 0 0, .int .u32 0]) ∧ Below w.heap.size w w' := by
  have hov := fun (W : World) (hb : Below w.heap.size w W) => wover_any (h.new hb)
  rw [decide_eq_false hi] at hov
  have hov1 := hov _ (below1 w (.cells #[.int .i64 0, .int .i64 0] 64))
  obtain ⟨Q, hQ⟩ : ∃ Q, Q = w.heap.size := ⟨_, rfl⟩
  have ha := heap_alloc_new w (.cells #[.int .i64 0, .int .i64 0] 64)
  rw [← hQ] at ha
  have HOV := Lib.hid hov1; have HQ := Lib.hid hQ; have HA := Lib.hid ha
  have HB := Lib.hid (below1 w (.cells #[.int .i64 0, .int .i64 0] 64))
  clear h hov hov1 hi hQ ha
  go_enter Tryz.func40, Tryz.ntmps40
  go_upto_region 1 with (fail)
  rw [← HQ.out]
  generalize w.alloc (.cells #[.int .i64 0, .int .i64 0] 64) = w1 at *
  go_upto_region 2 with (go_at_call 44; refine HOV.out.mono ?_; rintro e w2 ⟨rfl, hb2⟩; have HB2 := Lib.hid hb2; clear hb2)
  have l1 : w2.heap[Q]? = some (.cells #[.int .i64 0, .int .i64 0] 64) := by rw [HB2.out.block Q (heap_lt HA.out)]; exact HA.out
  have q0 : w2.cell? ⟨Q, 0, none⟩ = some (.int .i64 0) := cell_row l1 0
  have q1 : w2.cell? ⟨Q, 1, none⟩ = some (.int .i64 0) := cell_row l1 1
  have z0 := froz_row l1 0; have z1 := froz_row l1 1
  have L1 := Lib.hid l1
  clear l1
  go_wp2_with fail
  have l2 : ((w2.setCell ⟨Q, 0, none⟩ (.int .i64 0)).setCell ⟨Q, 1, none⟩ (.int .i64 0)).heap[Q]? = some (.cells #[.int .i64 0, .int .i64 0] 64) := set_blk (set_blk L1.out 0 (.int .i64 0) _ rfl) 1 (.int .i64 0) _ rfl
  have t : Turns (fun k => k = Q) w2 ((w2.setCell ⟨Q, 0, none⟩ (.int .i64 0)).setCell ⟨Q, 1, none⟩ (.int .i64 0)) := ((Turns.refl (fun k => k = Q) w2).setCell ⟨Q, 0, none⟩ _ rfl).setCell ⟨Q, 1, none⟩ _ rfl
  generalize (w2.setCell ⟨Q, 0, none⟩ (.int .i64 0)).setCell ⟨Q, 1, none⟩ (.int .i64 0) = w3 at *
  have p0 : w3.cell? ⟨Q, 0, none⟩ = some (.int .i64 0) := cell_row l2 0
  have p1 : w3.cell? ⟨Q, 1, none⟩ = some (.int .i64 0) := cell_row l2 1
  clear q0 q1 z0 z1 l2
  refine bodyPost_ret (v := .tuple #[plV 0 0, .int .u32 0]) (by simp [results, Tryz.results40, go_sem, p0, p1]) rfl ⟨rfl, ?_⟩
  have hb := HB.out.trans (HB2.out.mono HB.out.size)
  exact hb.trans (t.below hb.size (fun k hk e => by have h1 : k = Q := e; have h2 := HQ.out; omega))
set_option maxRecDepth 100000 in
set_option maxHeartbeats 4000000 in
theorem ogot_yes (h : Wy w0 w base WB M r j o t kw tw Z X) (hi : (nPart o : Int) ≤ Z.i) : Calls Tryz.prog 25 #[Pw Z.B] w fun e w' => e = .returned (.tuple #[plV Z.pb Z.pi, .int .u32 ((kw % 4294967296 : Nat) : Int)]) ∧ Below w.heap.size w w' := by
  have hg := wgot_yes (h.new (below1 w (.cells #[.int .i64 0, .int .i64 0] 64))) hi
  obtain ⟨Q, hQ⟩ : ∃ Q, Q = w.heap.size := ⟨_, rfl⟩
  have ha := heap_alloc_new w (.cells #[.int .i64 0, .int .i64 0] 64)
  rw [← hQ] at ha
  obtain ⟨b, hb⟩ : ∃ b, b = Z.pb := ⟨_, rfl⟩
  obtain ⟨i, hpi⟩ : ∃ i, i = Z.pi := ⟨_, rfl⟩
  obtain ⟨ky, hky⟩ : ∃ ky, ky = kw % 4294967296 := ⟨_, rfl⟩
  rw [← hb, ← hpi, ← hky] at hg
  rw [← hb, ← hpi, ← hky]
  have HG := Lib.hid hg; have HQ := Lib.hid hQ; have HA := Lib.hid ha; have HB := Lib.hid (below1 w (.cells #[.int .i64 0, .int .i64 0] 64))
  clear h hg hi hQ ha hb hpi hky
  go_enter Tryz.func25, Tryz.ntmps25
  go_upto_region 1 with (fail)
  rw [← HQ.out]
  generalize w.alloc (.cells #[.int .i64 0, .int .i64 0] 64) = w1 at *
  go_upto_region 3 with (fail)
  have HG2 : Hid (Calls Tryz.prog 40 #[Pw Z.B] w1 fun e w' => e = .returned (.tuple #[plV b i, .int .u32 (ky : Int)]) ∧ (Below w1.heap.size w1 w' ∧ w'.cell? ⟨Q, 0, none⟩ = some (.int .i64 0) ∧ w'.cell? ⟨Q, 1, none⟩ = some (.int .i64 0) ∧ w'.frozen? ⟨Q, 0, none⟩ = false ∧ w'.frozen? ⟨Q, 1, none⟩ = false)) := Lib.hid (HG.out.mono (by
    rintro e w' ⟨rfl, hb2⟩
    have l1 : w'.heap[Q]? = some (.cells #[.int .i64 0, .int .i64 0] 64) := by rw [hb2.block Q (heap_lt HA.out)]; exact HA.out
    exact ⟨rfl, hb2, cell_row l1 0, cell_row l1 1, froz_row l1 0, froz_row l1 1⟩))
  clear HG
  go_wp2_with (go_at_call 40; refine HG2.out.mono ?_; rintro e w2 ⟨rfl, hb2, q0, q1, z0, z1⟩; have HB2 := Lib.hid hb2; clear hb2)
  have l1 : w2.heap[Q]? = some (.cells #[.int .i64 0, .int .i64 0] 64) := by rw [HB2.out.block Q (heap_lt HA.out)]; exact HA.out
  have l2 : ((w2.setCell ⟨Q, 0, none⟩ (.int .i64 b)).setCell ⟨Q, 1, none⟩ (.int .i64 i)).heap[Q]? = some (.cells #[.int .i64 b, .int .i64 i] 64) := set_blk (set_blk l1 0 (.int .i64 b) _ rfl) 1 (.int .i64 i) _ rfl
  have t : Turns (fun k => k = Q) w2 ((w2.setCell ⟨Q, 0, none⟩ (.int .i64 b)).setCell ⟨Q, 1, none⟩ (.int .i64 i)) := ((Turns.refl (fun k => k = Q) w2).setCell ⟨Q, 0, none⟩ _ rfl).setCell ⟨Q, 1, none⟩ _ rfl
  generalize (w2.setCell ⟨Q, 0, none⟩ (.int .i64 b)).setCell ⟨Q, 1, none⟩ (.int .i64 i) = w3 at *
  have p0 : w3.cell? ⟨Q, 0, none⟩ = some (.int .i64 b) := cell_row l2 0
  have p1 : w3.cell? ⟨Q, 1, none⟩ = some (.int .i64 i) := cell_row l2 1
  clear q0 q1 z0 z1 l1 l2
  exact bodyPost_ret (v := .tuple #[plV b i, .int .u32 (ky : Int)]) (by simp [results, Tryz.results25, go_sem, p0, p1]) rfl ⟨rfl, below_turn HB.out HB2.out t HQ.out⟩
set_option maxRecDepth 100000 in
set_option maxHeartbeats 4000000 in
theorem egot_yes (h : Wy w0 w base WB M r j o t kw tw Z X) (hi : (nPart o : Int) ≤ Z.i) : Calls Tryz.prog 16 #[Pw Z.B] w fun e w' => e = .returned (plV Z.pb Z.pi) ∧ Below w.heap.size w w' := by
  have hg := wgot_yes (h.new (below1 w (.cells #[.int .i64 0, .int .i64 0] 64))) hi
  obtain ⟨Q, hQ⟩ : ∃ Q, Q = w.heap.size := ⟨_, rfl⟩
  have ha := heap_alloc_new w (.cells #[.int .i64 0, .int .i64 0] 64)
  rw [← hQ] at ha
  obtain ⟨b, hb⟩ : ∃ b, b = Z.pb := ⟨_, rfl⟩
  obtain ⟨i, hpi⟩ : ∃ i, i = Z.pi := ⟨_, rfl⟩
  obtain ⟨ky, hky⟩ : ∃ ky, ky = kw % 4294967296 := ⟨_, rfl⟩
  rw [← hb, ← hpi, ← hky] at hg
  rw [← hb, ← hpi]
  have HG := Lib.hid hg; have HQ := Lib.hid hQ; have HA := Lib.hid ha; have HB := Lib.hid (below1 w (.cells #[.int .i64 0, .int .i64 0] 64))
  clear h hg hi hQ ha hb hpi hky
  go_enter Tryz.func16, Tryz.ntmps16
  go_upto_region 1 with (fail)
  rw [← HQ.out]
  generalize w.alloc (.cells #[.int .i64 0, .int .i64 0] 64) = w1 at *
  go_upto_region 3 with (fail)
  go_upto_region 4 with (go_at_call 40; refine HG.out.mono ?_; rintro e w2 ⟨rfl, hb2⟩; have HB2 := Lib.hid hb2; clear hb2)
  have hb3 : Below w1.heap.size w1 (w2.alloc (.cells #[.int .i64 b, .int .i64 i] 64)) := HB2.out.trans ((below1 w2 (.cells #[.int .i64 b, .int .i64 i] 64)).mono HB2.out.size)
  have l3 := heap_alloc_new w2 (.cells #[.int .i64 b, .int .i64 i] 64)
  obtain ⟨N2, hN2⟩ : ∃ N2, N2 = w2.heap.size := ⟨_, rfl⟩
  rw [← hN2] at l3 ⊢
  have l1 : (w2.alloc (.cells #[.int .i64 b, .int .i64 i] 64)).heap[Q]? = some (.cells #[.int .i64 0, .int .i64 0] 64) := by rw [hb3.block Q (heap_lt HA.out)]; exact HA.out
  have HB3 := Lib.hid hb3
  clear hb3 hN2
  generalize w2.alloc (.cells #[.int .i64 b, .int .i64 i] 64) = w3 at *
  have n0 : w3.cell? ⟨N2, 0, none⟩ = some (.int .i64 b) := cell_row l3 0
  have n1 : w3.cell? ⟨N2, 1, none⟩ = some (.int .i64 i) := cell_row l3 1
  have q0 : w3.cell? ⟨Q, 0, none⟩ = some (.int .i64 0) := cell_row l1 0
  have q1 : w3.cell? ⟨Q, 1, none⟩ = some (.int .i64 0) := cell_row l1 1
  have z0 := froz_row l1 0; have z1 := froz_row l1 1
  have L1 := Lib.hid l1
  clear l1 l3
  go_wp2_with fail
  have l2 : ((w3.setCell ⟨Q, 0, none⟩ (.int .i64 b)).setCell ⟨Q, 1, none⟩ (.int .i64 i)).heap[Q]? = some (.cells #[.int .i64 b, .int .i64 i] 64) := set_blk (set_blk L1.out 0 (.int .i64 b) _ rfl) 1 (.int .i64 i) _ rfl
  have t : Turns (fun k => k = Q) w3 ((w3.setCell ⟨Q, 0, none⟩ (.int .i64 b)).setCell ⟨Q, 1, none⟩ (.int .i64 i)) := ((Turns.refl (fun k => k = Q) w3).setCell ⟨Q, 0, none⟩ _ rfl).setCell ⟨Q, 1, none⟩ _ rfl
  generalize (w3.setCell ⟨Q, 0, none⟩ (.int .i64 b)).setCell ⟨Q, 1, none⟩ (.int .i64 i) = w4 at *
  have p0 : w4.cell? ⟨Q, 0, none⟩ = some (.int .i64 b) := cell_row l2 0
  have p1 : w4.cell? ⟨Q, 1, none⟩ = some (.int .i64 i) := cell_row l2 1
  clear q0 q1 z0 z1 l2 n0 n1 L1
  exact bodyPost_ret (v := plV b i) (by simp [results, Tryz.results16, go_sem, p0, p1]) rfl ⟨rfl, below_turn HB.out HB3.out t HQ.out⟩
end
end Go.Proofs.YthafnphpcdbnlaaGreat.S15
