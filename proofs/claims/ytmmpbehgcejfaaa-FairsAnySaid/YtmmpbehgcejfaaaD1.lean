/- FairsAny's walk. -/
import Derived.Test.YtmmpbehgcejfaaaA2
import Derived.Deep.RegionHeld
import Derived.Deep.RegionHeld3
namespace Go.Proofs.Ytmmpbehgcejfaaa
open Go.RowKit

theorem keepS {w0 w w' : World} {X C D a f p q : Nat} (hX : X < w0.heap.size) (hC : C < w0.heap.size) (hD : D < w0.heap.size)
    (h : w.cell? ⟨X, 0, none⟩ = some (.int .u64 a) ∧ w.cell? ⟨X, 1, none⟩ = some (.int .u64 f) ∧ w.cell? ⟨C, 0, none⟩ = some (.int .u64 p) ∧ w.cell? ⟨C, 1, none⟩ = some (.int .u64 q) ∧ w.cell? ⟨D, 0, none⟩ = some (.int .u64 p) ∧ w.cell? ⟨D, 1, none⟩ = some (.int .u64 q) ∧ Below w0.heap.size w0 w) (b : Below w.heap.size w w') :
    w'.cell? ⟨X, 0, none⟩ = some (.int .u64 a) ∧ w'.cell? ⟨X, 1, none⟩ = some (.int .u64 f) ∧ w'.cell? ⟨C, 0, none⟩ = some (.int .u64 p) ∧ w'.cell? ⟨C, 1, none⟩ = some (.int .u64 q) ∧ w'.cell? ⟨D, 0, none⟩ = some (.int .u64 p) ∧ w'.cell? ⟨D, 1, none⟩ = some (.int .u64 q) ∧ Below w0.heap.size w0 w' := by
  obtain ⟨x0, x1, c0, c1, d0, d1, hb⟩ := h
  have hs := hb.size
  exact ⟨(b.cell (p := ⟨X, 0, none⟩) (Nat.lt_of_lt_of_le hX hs)).trans x0, (b.cell (p := ⟨X, 1, none⟩) (Nat.lt_of_lt_of_le hX hs)).trans x1,
    (b.cell (p := ⟨C, 0, none⟩) (Nat.lt_of_lt_of_le hC hs)).trans c0, (b.cell (p := ⟨C, 1, none⟩) (Nat.lt_of_lt_of_le hC hs)).trans c1,
    (b.cell (p := ⟨D, 0, none⟩) (Nat.lt_of_lt_of_le hD hs)).trans d0, (b.cell (p := ⟨D, 1, none⟩) (Nat.lt_of_lt_of_le hD hs)).trans d1, hb.trans (b.mono hs)⟩
set_option maxHeartbeats 8000000 in
set_option maxRecDepth 100000 in
theorem law_any (a f n d : Nat) (hn : n ≤ 18446744073709551615) (hd : d ≤ 18446744073709551615) (w : World) :
    Calls Try.prog 3 #[Tm a f, .int .u64 n, .int .u64 d] w fun e w' => e = .returned (.bool true) ∧ Below w.heap.size w w' := by
  have hl := lives_any
  have q1 := fire_any a f n d hn hd
  have q2 := rfire_any a f n d hn hd
  have q3 := other_any a f
  have u1 := due_any a f n
  have u2 := rdue_any a f n
  have b1 := below1 w (.cells #[.int .u64 a, .int .u64 f] 24)
  have t1 := TmAt.made w 24 a f
  generalize firA a n d = p at *
  generalize firF a f n = q at *
  generalize decide (a < n) = u at *
  have en : ∀ w, (binOp .eql 27 (Tm n n) (Tm n n)).run Try.prog w = .ok (.bool true) w := fun w => by rw [eq27]; simp
  have ep : ∀ w, (binOp .eql 27 (Tm p q) (Tm p q)).run Try.prog w = .ok (.bool true) w := fun w => by rw [eq27]; simp
  have eu : (u == u) = true := by simp
  have HL := Lib.hid hl; have Q1 := Lib.hid q1; have Q2 := Lib.hid q2; have Q3 := Lib.hid q3; have HU1 := Lib.hid u1; have HU2 := Lib.hid u2; have B1 := Lib.hid b1
  clear hl q1 q2 q3 u1 u2 hn hd b1
  go_enter Try.func3, Try.ntmps3
  go_upto_region 1 with (fail)
  generalize w.alloc (.cells #[.int .u64 a, .int .u64 f] 24) = w1 at *
  obtain ⟨X, hXX⟩ : ∃ X, X = w.heap.size := ⟨_, rfl⟩
  rw [← hXX] at t1 ⊢
  have HXX := Lib.hid hXX
  clear hXX
  have T1 := Lib.hid t1
  have x0 := t1.c0; have x1 := t1.c1
  clear t1
  go_wp2_with fail
  refine (Q1.out _).mono ?_
  rintro e w2 ⟨rfl, b2⟩
  have b3 := below1 w2 (.cells #[.int .u64 p, .int .u64 q] 24)
  have B3 := Lib.hid ((B1.out.trans (b2.mono B1.out.size)).alloc (Nat.le_trans B1.out.size b2.size) (.cells #[.int .u64 p, .int .u64 q] 24))
  have T3 := Lib.hid ((T1.out.new b2).new b3)
  have U3 := TmAt.made w2 24 p q
  clear b2 b3 x0 x1
  go_upto_region 2 with (fail)
  generalize w2.alloc (.cells #[.int .u64 p, .int .u64 q] 24) = w3 at *
  generalize w2.heap.size = C at *
  have x0 := T3.out.c0; have x1 := T3.out.c1
  go_wp2_with fail
  refine (Q3.out _).mono ?_
  rintro e w4 ⟨rfl, b4⟩
  have B4 := Lib.hid (B3.out.trans (b4.mono B3.out.size))
  have T4 := Lib.hid (T3.out.new b4)
  have U4 := Lib.hid (U3.new b4)
  clear b4 x0 x1 U3
  go_wp2_with fail
  refine (Q2.out _).mono ?_
  rintro e w5 ⟨rfl, b5⟩
  have b6 := below1 w5 (.cells #[.int .u64 p, .int .u64 q] 27)
  have B6 := Lib.hid ((B4.out.trans (b5.mono B4.out.size)).alloc (Nat.le_trans B4.out.size b5.size) (.cells #[.int .u64 p, .int .u64 q] 27))
  have t6 := (T4.out.new b5).new b6
  have u6 := (U4.out.new b5).new b6
  have v6 := TmAt.made w5 27 p q
  clear b5 b6
  go_upto_region 3 with (fail)
  generalize w5.alloc (.cells #[.int .u64 p, .int .u64 q] 27) = w0 at *
  generalize w5.heap.size = D at *
  have hX := t6.lt; have hC := u6.lt; have hD := v6.lt
  have x0 := t6.c0; have x1 := t6.c1; have c0 := u6.c0; have c1 := u6.c1; have d0 := v6.c0; have d1 := v6.c1
  clear t6 u6 v6
  refine wp_region_held_drew (S := fun w' => w'.cell? ⟨X, 0, none⟩ = some (.int .u64 a) ∧ w'.cell? ⟨X, 1, none⟩ = some (.int .u64 f) ∧ w'.cell? ⟨C, 0, none⟩ = some (.int .u64 p) ∧ w'.cell? ⟨C, 1, none⟩ = some (.int .u64 q) ∧ w'.cell? ⟨D, 0, none⟩ = some (.int .u64 p) ∧ w'.cell? ⟨D, 1, none⟩ = some (.int .u64 q) ∧ Below w0.heap.size w0 w') (by kernel_rfl) ?_ (fun hHeld => ?_)
  · exact ⟨x0, x1, c0, c1, d0, d1, ⟨rfl, rfl, rfl, Nat.le_refl _, fun _ _ => rfl⟩⟩
  refine wpAnyH_take (i := 0) (oi := ({ dst := some 26, op := Op.move (Operand.tmp 1), type := 22, pos := "law.go:17", after := #[], guard := none } : Oper)) (v := ?v0) rfl (by kernel_rfl) (by kernel_rfl) (by kernel_rfl) (fun _ _ _ h => h) (Or.inl ⟨by rfl, fun w hSw => ?hy0⟩) (by assumption) ?r0
  case hy0 => (try dsimp only at hSw); go_simp; (try with_reducible rfl)
  (try simp only [Act.put, List.setIfInBounds_toArray, List.set_cons_zero, List.set_cons_succ])
  refine wpAnyH_take (i := 3) (oi := ({ dst := some 29, op := Op.move (Operand.tmp 1), type := 22, pos := "law.go:17", after := #[], guard := none } : Oper)) (v := ?v3) rfl (by kernel_rfl) (by kernel_rfl) (by kernel_rfl) (fun _ _ _ h => h) (Or.inl ⟨by rfl, fun w hSw => ?hy3⟩) (by assumption) ?r3
  case hy3 => (try dsimp only at hSw); go_simp; (try with_reducible rfl)
  (try simp only [Act.put, List.setIfInBounds_toArray, List.set_cons_zero, List.set_cons_succ])
  refine wpAnyH_ready (rs := [1]) (by kernel_rfl) (by simp) ?_
  refine AllReadyH.cons (o := ({ dst := some 27, op := Op.call { callee := Callee.value (Operand.func 9), args := #[Operand.tmp 26], argTypes := #[22] }, type := 24, pos := "law.go:17", after := #[{ on := 0, ground := Ground.data }], guard := none } : Oper)) rfl (fun Kq hKq => ?_) AllReadyH.nil
  go_simp
  (refine (begin_any _ _).mono ?_; rintro e wa ⟨rfl, ba⟩)
  refine hKq.out _ _ ?_ (fun hHeld => ?_)
  · exact keepS hX hC hD hHeld ba
  clear hKq Kq
  (try simp only [Act.put, List.setIfInBounds_toArray, List.set_cons_zero, List.set_cons_succ])
  refine wpAnyH_ready (rs := [2]) (by kernel_rfl) (by simp) ?_
  refine AllReadyH.cons (o := ({ dst := some 28, op := Op.call { callee := Callee.value (Operand.func 8), args := #[Operand.tmp 27], argTypes := #[24] }, type := 27, pos := "law.go:17", after := #[{ on := 1, ground := Ground.data }, { on := 1, ground := Ground.chain }], guard := none } : Oper)) rfl (fun Kq hKq => ?_) AllReadyH.nil
  go_simp
  (refine (other_any _ _ _).mono ?_; rintro e wa ⟨rfl, ba⟩)
  refine hKq.out _ _ ?_ (fun hHeld => ?_)
  · exact keepS hX hC hD hHeld ba
  clear hKq Kq
  (try simp only [Act.put, List.setIfInBounds_toArray, List.set_cons_zero, List.set_cons_succ])
  refine wpAnyH_ready (rs := [4]) (by kernel_rfl) (by simp) ?_
  refine AllReadyH.cons (o := ({ dst := some 30, op := Op.call { callee := Callee.value (Operand.func 10), args := #[Operand.tmp 29], argTypes := #[22] }, type := 27, pos := "law.go:17", after := #[{ on := 3, ground := Ground.data }, { on := 2, ground := Ground.chain }], guard := none } : Oper)) rfl (fun Kq hKq => ?_) AllReadyH.nil
  go_simp
  (refine (rbegin_any _ _).mono ?_; rintro e wa ⟨rfl, ba⟩)
  refine hKq.out _ _ ?_ (fun hHeld => ?_)
  · exact keepS hX hC hD hHeld ba
  clear hKq Kq
  (try simp only [Act.put, List.setIfInBounds_toArray, List.set_cons_zero, List.set_cons_succ])
  refine wpAnyH_take (i := 5) (oi := ({ dst := some 31, op := Op.binOp BinOp.eql 27 (Operand.tmp 28) (Operand.tmp 30) 27, type := 4, pos := "law.go:17", after := #[{ on := 2, ground := Ground.data }, { on := 4, ground := Ground.data }], guard := none } : Oper)) (v := ?v5) rfl (by kernel_rfl) (by kernel_rfl) (by kernel_rfl) (fun _ _ _ h => h) (Or.inl ⟨by rfl, fun w hSw => ?hy5⟩) (by assumption) ?r5
  case hy5 => (try dsimp only at hSw); go_simp; (try with_reducible rfl)
  (try simp only [Act.put, List.setIfInBounds_toArray, List.set_cons_zero, List.set_cons_succ])
  refine wpAnyH_take (i := 6) (oi := ({ dst := some 32, op := Op.move (Operand.tmp 31), type := 4, pos := "law.go:17", after := #[{ on := 5, ground := Ground.data }, { on := 4, ground := Ground.chain }], guard := none } : Oper)) (v := ?v6) rfl (by kernel_rfl) (by kernel_rfl) (by kernel_rfl) (fun _ _ _ h => h) (Or.inl ⟨by rfl, fun w hSw => ?hy6⟩) (by assumption) ?r6
  case hy6 => (try dsimp only at hSw); go_simp; (try with_reducible rfl)
  (try simp only [Act.put, List.setIfInBounds_toArray, List.set_cons_zero, List.set_cons_succ])
  refine wpAnyH_take (i := 7) (oi := ({ dst := some 33, op := Op.load 24 (Operand.tmp 3), type := 24, pos := "law.go:17", after := #[{ on := 6, ground := Ground.guard }], guard := some (6, true) } : Oper)) (v := ?v7) rfl (by kernel_rfl) (by kernel_rfl) (by kernel_rfl) (fun _ _ _ h => h) (Or.inl ⟨by rfl, fun w hSw => ?hy7⟩) (by assumption) ?r7
  case hy7 => (try dsimp only at hSw); go_simp; (try with_reducible rfl)
  (try simp only [Act.put, List.setIfInBounds_toArray, List.set_cons_zero, List.set_cons_succ])
  refine wpAnyH_take (i := 8) (oi := ({ dst := some 34, op := Op.move (Operand.tmp 1), type := 22, pos := "law.go:17", after := #[{ on := 6, ground := Ground.guard }], guard := some (6, true) } : Oper)) (v := ?v8) rfl (by kernel_rfl) (by kernel_rfl) (by kernel_rfl) (fun _ _ _ h => h) (Or.inl ⟨by rfl, fun w hSw => ?hy8⟩) (by assumption) ?r8
  case hy8 => (try dsimp only at hSw); go_simp; (try with_reducible rfl)
  (try simp only [Act.put, List.setIfInBounds_toArray, List.set_cons_zero, List.set_cons_succ])
  refine wpAnyH_take (i := 10) (oi := ({ dst := some 36, op := Op.load 24 (Operand.tmp 3), type := 24, pos := "law.go:17", after := #[{ on := 6, ground := Ground.guard }], guard := some (6, true) } : Oper)) (v := ?v10) rfl (by kernel_rfl) (by kernel_rfl) (by kernel_rfl) (fun _ _ _ h => h) (Or.inl ⟨by rfl, fun w hSw => ?hy10⟩) (by assumption) ?r10
  case hy10 => (try dsimp only at hSw); go_simp; (try with_reducible rfl)
  (try simp only [Act.put, List.setIfInBounds_toArray, List.set_cons_zero, List.set_cons_succ])
  refine wpAnyH_take (i := 12) (oi := ({ dst := some 38, op := Op.move (Operand.tmp 1), type := 22, pos := "law.go:17", after := #[{ on := 6, ground := Ground.guard }], guard := some (6, true) } : Oper)) (v := ?v12) rfl (by kernel_rfl) (by kernel_rfl) (by kernel_rfl) (fun _ _ _ h => h) (Or.inl ⟨by rfl, fun w hSw => ?hy12⟩) (by assumption) ?r12
  case hy12 => (try dsimp only at hSw); go_simp; (try with_reducible rfl)
  (try simp only [Act.put, List.setIfInBounds_toArray, List.set_cons_zero, List.set_cons_succ])
  refine wpAnyH_ready (rs := [9]) (by kernel_rfl) (by simp) ?_
  refine AllReadyH.cons (o := ({ dst := some 35, op := Op.call { callee := Callee.value (Operand.func 11), args := #[Operand.tmp 33, Operand.tmp 34], argTypes := #[24, 22] }, type := 4, pos := "law.go:17", after := #[{ on := 7, ground := Ground.data }, { on := 8, ground := Ground.data }, { on := 6, ground := Ground.chain }, { on := 6, ground := Ground.guard }], guard := some (6, true) } : Oper)) rfl (fun Kq hKq => ?_) AllReadyH.nil
  go_simp
  (refine (HU1.out _).mono ?_; rintro e wa ⟨rfl, ba⟩)
  refine hKq.out _ _ ?_ (fun hHeld => ?_)
  · exact keepS hX hC hD hHeld ba
  clear hKq Kq
  (try simp only [Act.put, List.setIfInBounds_toArray, List.set_cons_zero, List.set_cons_succ])
  refine wpAnyH_ready (rs := [11]) (by kernel_rfl) (by simp) ?_
  refine AllReadyH.cons (o := ({ dst := some 37, op := Op.call { callee := Callee.value (Operand.func 8), args := #[Operand.tmp 36], argTypes := #[24] }, type := 27, pos := "law.go:17", after := #[{ on := 10, ground := Ground.data }, { on := 9, ground := Ground.chain }, { on := 6, ground := Ground.guard }], guard := some (6, true) } : Oper)) rfl (fun Kq hKq => ?_) AllReadyH.nil
  go_simp
  (refine (other_any _ _ _).mono ?_; rintro e wa ⟨rfl, ba⟩)
  refine hKq.out _ _ ?_ (fun hHeld => ?_)
  · exact keepS hX hC hD hHeld ba
  clear hKq Kq
  (try simp only [Act.put, List.setIfInBounds_toArray, List.set_cons_zero, List.set_cons_succ])
  refine wpAnyH_ready (rs := [13]) (by kernel_rfl) (by simp) ?_
  refine AllReadyH.cons (o := ({ dst := some 39, op := Op.call { callee := Callee.value (Operand.func 12), args := #[Operand.tmp 37, Operand.tmp 38], argTypes := #[27, 22] }, type := 4, pos := "law.go:17", after := #[{ on := 11, ground := Ground.data }, { on := 12, ground := Ground.data }, { on := 11, ground := Ground.chain }, { on := 6, ground := Ground.guard }], guard := some (6, true) } : Oper)) rfl (fun Kq hKq => ?_) AllReadyH.nil
  go_simp
  (refine (HU2.out _).mono ?_; rintro e wa ⟨rfl, ba⟩)
  refine hKq.out _ _ ?_ (fun hHeld => ?_)
  · exact keepS hX hC hD hHeld ba
  clear hKq Kq
  (try simp only [Act.put, List.setIfInBounds_toArray, List.set_cons_zero, List.set_cons_succ])
  refine wpAnyH_take (i := 14) (oi := ({ dst := some 40, op := Op.binOp BinOp.eql 4 (Operand.tmp 35) (Operand.tmp 39) 4, type := 4, pos := "law.go:17", after := #[{ on := 9, ground := Ground.data }, { on := 13, ground := Ground.data }, { on := 6, ground := Ground.guard }], guard := some (6, true) } : Oper)) (v := ?v14) rfl (by kernel_rfl) (by kernel_rfl) (by kernel_rfl) (fun _ _ _ h => h) (Or.inl ⟨by rfl, fun w hSw => ?hy14⟩) (by assumption) ?r14
  case hy14 => (try dsimp only at hSw); go_simp; (try with_reducible rfl)
  (try simp only [Act.put, List.setIfInBounds_toArray, List.set_cons_zero, List.set_cons_succ])
  refine wpAnyH_take (i := 15) (oi := ({ dst := some 41, op := Op.pick (Operand.tmp 32) (Operand.tmp 40) (Operand.const (Value.bool false)), type := 4, pos := "law.go:17", after := #[{ on := 6, ground := Ground.data }, { on := 14, ground := Ground.data }], guard := none } : Oper)) (v := ?v15) rfl (by kernel_rfl) (by kernel_rfl) (by kernel_rfl) (fun _ _ _ h => h) (Or.inl ⟨by rfl, fun w hSw => ?hy15⟩) (by assumption) ?r15
  case hy15 => (try dsimp only at hSw); go_simp; (try with_reducible rfl)
  (try simp only [Act.put, List.setIfInBounds_toArray, List.set_cons_zero, List.set_cons_succ])
  refine wpAnyH_take (i := 16) (oi := ({ dst := some 42, op := Op.move (Operand.tmp 41), type := 4, pos := "law.go:17", after := #[{ on := 15, ground := Ground.data }, { on := 13, ground := Ground.chain }], guard := none } : Oper)) (v := ?v16) rfl (by kernel_rfl) (by kernel_rfl) (by kernel_rfl) (fun _ _ _ h => h) (Or.inl ⟨by rfl, fun w hSw => ?hy16⟩) (by assumption) ?r16
  case hy16 => (try dsimp only at hSw); go_simp; (try with_reducible rfl)
  (try simp only [Act.put, List.setIfInBounds_toArray, List.set_cons_zero, List.set_cons_succ])
  refine wpAnyH_take (i := 17) (oi := ({ dst := some 43, op := Op.load 24 (Operand.tmp 7), type := 24, pos := "law.go:17", after := #[{ on := 16, ground := Ground.guard }], guard := some (16, true) } : Oper)) (v := ?v17) rfl (by kernel_rfl) (by kernel_rfl) (by kernel_rfl) (fun _ _ _ h => h) (Or.inl ⟨by rfl, fun w hSw => ?hy17⟩) (by assumption) ?r17
  case hy17 => (try dsimp only at hSw); go_simp; (try with_reducible rfl)
  (try simp only [Act.put, List.setIfInBounds_toArray, List.set_cons_zero, List.set_cons_succ])
  refine wpAnyH_take (i := 19) (oi := ({ dst := some 45, op := Op.load 27 (Operand.tmp 9), type := 27, pos := "law.go:17", after := #[{ on := 16, ground := Ground.guard }], guard := some (16, true) } : Oper)) (v := ?v19) rfl (by kernel_rfl) (by kernel_rfl) (by kernel_rfl) (fun _ _ _ h => h) (Or.inl ⟨by rfl, fun w hSw => ?hy19⟩) (by assumption) ?r19
  case hy19 => (try dsimp only at hSw); go_simp; (try with_reducible rfl)
  (try simp only [Act.put, List.setIfInBounds_toArray, List.set_cons_zero, List.set_cons_succ])
  refine wpAnyH_ready (rs := [18]) (by kernel_rfl) (by simp) ?_
  refine AllReadyH.cons (o := ({ dst := some 44, op := Op.call { callee := Callee.value (Operand.func 8), args := #[Operand.tmp 43], argTypes := #[24] }, type := 27, pos := "law.go:17", after := #[{ on := 17, ground := Ground.data }, { on := 16, ground := Ground.chain }, { on := 16, ground := Ground.guard }], guard := some (16, true) } : Oper)) rfl (fun Kq hKq => ?_) AllReadyH.nil
  go_simp
  (refine (other_any _ _ _).mono ?_; rintro e wa ⟨rfl, ba⟩)
  refine hKq.out _ _ ?_ (fun hHeld => ?_)
  · exact keepS hX hC hD hHeld ba
  clear hKq Kq
  (try simp only [Act.put, List.setIfInBounds_toArray, List.set_cons_zero, List.set_cons_succ])
  refine wpAnyH_take (i := 20) (oi := ({ dst := some 46, op := Op.binOp BinOp.eql 27 (Operand.tmp 44) (Operand.tmp 45) 27, type := 4, pos := "law.go:17", after := #[{ on := 18, ground := Ground.data }, { on := 19, ground := Ground.data }, { on := 16, ground := Ground.guard }], guard := some (16, true) } : Oper)) (v := ?v20) rfl (by kernel_rfl) (by kernel_rfl) (by kernel_rfl) (fun _ _ _ h => h) (Or.inl ⟨by rfl, fun w hSw => ?hy20⟩) (by assumption) ?r20
  case hy20 => (try dsimp only at hSw); go_simp; (try with_reducible rfl)
  (try simp only [Act.put, List.setIfInBounds_toArray, List.set_cons_zero, List.set_cons_succ])
  refine wpAnyH_take (i := 21) (oi := ({ dst := some 47, op := Op.pick (Operand.tmp 42) (Operand.tmp 46) (Operand.const (Value.bool false)), type := 4, pos := "law.go:17", after := #[{ on := 16, ground := Ground.data }, { on := 20, ground := Ground.data }], guard := none } : Oper)) (v := ?v21) rfl (by kernel_rfl) (by kernel_rfl) (by kernel_rfl) (fun _ _ _ h => h) (Or.inl ⟨by rfl, fun w hSw => ?hy21⟩) (by assumption) ?r21
  case hy21 => (try dsimp only at hSw); go_simp; (try with_reducible rfl)
  (try simp only [Act.put, List.setIfInBounds_toArray, List.set_cons_zero, List.set_cons_succ])
  refine wpAnyH_take (i := 22) (oi := ({ dst := some 48, op := Op.move (Operand.tmp 47), type := 4, pos := "law.go:17", after := #[{ on := 21, ground := Ground.data }, { on := 18, ground := Ground.chain }], guard := none } : Oper)) (v := ?v22) rfl (by kernel_rfl) (by kernel_rfl) (by kernel_rfl) (fun _ _ _ h => h) (Or.inl ⟨by rfl, fun w hSw => ?hy22⟩) (by assumption) ?r22
  case hy22 => (try dsimp only at hSw); go_simp; (try with_reducible rfl)
  (try simp only [Act.put, List.setIfInBounds_toArray, List.set_cons_zero, List.set_cons_succ])
  refine wpAnyH_take (i := 23) (oi := ({ dst := some 49, op := Op.move (Operand.tmp 8), type := 4, pos := "law.go:17", after := #[{ on := 22, ground := Ground.guard }], guard := some (22, true) } : Oper)) (v := ?v23) rfl (by kernel_rfl) (by kernel_rfl) (by kernel_rfl) (fun _ _ _ h => h) (Or.inl ⟨by rfl, fun w hSw => ?hy23⟩) (by assumption) ?r23
  case hy23 => (try dsimp only at hSw); go_simp; (try with_reducible rfl)
  (try simp only [Act.put, List.setIfInBounds_toArray, List.set_cons_zero, List.set_cons_succ])
  refine wpAnyH_take (i := 24) (oi := ({ dst := some 50, op := Op.move (Operand.tmp 10), type := 4, pos := "law.go:17", after := #[{ on := 22, ground := Ground.guard }], guard := some (22, true) } : Oper)) (v := ?v24) rfl (by kernel_rfl) (by kernel_rfl) (by kernel_rfl) (fun _ _ _ h => h) (Or.inl ⟨by rfl, fun w hSw => ?hy24⟩) (by assumption) ?r24
  case hy24 => (try dsimp only at hSw); go_simp; (try with_reducible rfl)
  (try simp only [Act.put, List.setIfInBounds_toArray, List.set_cons_zero, List.set_cons_succ])
  refine wpAnyH_take (i := 25) (oi := ({ dst := some 51, op := Op.binOp BinOp.eql 4 (Operand.tmp 49) (Operand.tmp 50) 4, type := 4, pos := "law.go:17", after := #[{ on := 23, ground := Ground.data }, { on := 24, ground := Ground.data }, { on := 22, ground := Ground.guard }], guard := some (22, true) } : Oper)) (v := ?v25) rfl (by kernel_rfl) (by kernel_rfl) (by kernel_rfl) (fun _ _ _ h => h) (Or.inl ⟨by rfl, fun w hSw => ?hy25⟩) (by assumption) ?r25
  case hy25 => (try dsimp only at hSw); go_simp; (try with_reducible rfl)
  (try simp only [Act.put, List.setIfInBounds_toArray, List.set_cons_zero, List.set_cons_succ])
  refine wpAnyH_take (i := 26) (oi := ({ dst := some 52, op := Op.pick (Operand.tmp 48) (Operand.tmp 51) (Operand.const (Value.bool false)), type := 4, pos := "law.go:17", after := #[{ on := 22, ground := Ground.data }, { on := 25, ground := Ground.data }], guard := none } : Oper)) (v := ?v26) rfl (by kernel_rfl) (by kernel_rfl) (by kernel_rfl) (fun _ _ _ h => h) (Or.inl ⟨by rfl, fun w hSw => ?hy26⟩) (by assumption) ?r26
  case hy26 => (try dsimp only at hSw); go_simp; (try with_reducible rfl)
  (try simp only [Act.put, List.setIfInBounds_toArray, List.set_cons_zero, List.set_cons_succ])
  refine wpAnyH_take (i := 27) (oi := ({ dst := some 53, op := Op.move (Operand.tmp 52), type := 4, pos := "law.go:17", after := #[{ on := 26, ground := Ground.data }, { on := 22, ground := Ground.chain }], guard := none } : Oper)) (v := ?v27) rfl (by kernel_rfl) (by kernel_rfl) (by kernel_rfl) (fun _ _ _ h => h) (Or.inl ⟨by rfl, fun w hSw => ?hy27⟩) (by assumption) ?r27
  case hy27 => (try dsimp only at hSw); go_simp; (try with_reducible rfl)
  (try simp only [Act.put, List.setIfInBounds_toArray, List.set_cons_zero, List.set_cons_succ])
  refine wpAnyH_ready (rs := [28]) (by kernel_rfl) (by simp) ?_
  refine AllReadyH.cons (o := ({ dst := some 54, op := Op.call { callee := Callee.value (Operand.func 13), args := #[], argTypes := #[] }, type := 4, pos := "law.go:17", after := #[{ on := 27, ground := Ground.chain }, { on := 27, ground := Ground.guard }], guard := some (27, true) } : Oper)) rfl (fun Kq hKq => ?_) AllReadyH.nil
  go_simp
  (refine (HL.out _).mono ?_; rintro e wa ⟨rfl, ba⟩)
  refine hKq.out _ _ ?_ (fun hHeld => ?_)
  · exact keepS hX hC hD hHeld ba
  clear hKq Kq
  (try simp only [Act.put, List.setIfInBounds_toArray, List.set_cons_zero, List.set_cons_succ])
  refine wpAnyH_take (i := 29) (oi := ({ dst := some 55, op := Op.pick (Operand.tmp 53) (Operand.tmp 54) (Operand.const (Value.bool false)), type := 4, pos := "law.go:17", after := #[{ on := 27, ground := Ground.data }, { on := 28, ground := Ground.data }], guard := none } : Oper)) (v := ?v29) rfl (by kernel_rfl) (by kernel_rfl) (by kernel_rfl) (fun _ _ _ h => h) (Or.inl ⟨by rfl, fun w hSw => ?hy29⟩) (by assumption) ?r29
  case hy29 => (try dsimp only at hSw); go_simp; (try with_reducible rfl)
  (try simp only [Act.put, List.setIfInBounds_toArray, List.set_cons_zero, List.set_cons_succ])
  refine wpAnyH_take (i := 30) (oi := ({ dst := some 6, op := Op.assign (Operand.tmp 55), type := 4, pos := "law.go:17", after := #[{ on := 29, ground := Ground.data }, { on := 28, ground := Ground.chain }, { on := 0, ground := Ground.phase }, { on := 1, ground := Ground.phase }, { on := 2, ground := Ground.phase }, { on := 3, ground := Ground.phase }, { on := 4, ground := Ground.phase }, { on := 5, ground := Ground.phase }, { on := 6, ground := Ground.phase }, { on := 7, ground := Ground.phase }, { on := 8, ground := Ground.phase }, { on := 9, ground := Ground.phase }, { on := 10, ground := Ground.phase }, { on := 11, ground := Ground.phase }, { on := 12, ground := Ground.phase }, { on := 13, ground := Ground.phase }, { on := 14, ground := Ground.phase }, { on := 15, ground := Ground.phase }, { on := 16, ground := Ground.phase }, { on := 17, ground := Ground.phase }, { on := 18, ground := Ground.phase }, { on := 19, ground := Ground.phase }, { on := 20, ground := Ground.phase }, { on := 21, ground := Ground.phase }, { on := 22, ground := Ground.phase }, { on := 23, ground := Ground.phase }, { on := 24, ground := Ground.phase }, { on := 25, ground := Ground.phase }, { on := 26, ground := Ground.phase }, { on := 27, ground := Ground.phase }, { on := 28, ground := Ground.phase }, { on := 29, ground := Ground.phase }], guard := none } : Oper)) (v := ?v30) rfl (by kernel_rfl) (by kernel_rfl) (by kernel_rfl) (fun _ _ _ h => h) (Or.inl ⟨by rfl, fun w hSw => ?hy30⟩) (by assumption) ?r30
  case hy30 => (try dsimp only at hSw); go_simp; (try with_reducible rfl)
  (try simp only [Act.put, List.setIfInBounds_toArray, List.set_cons_zero, List.set_cons_succ])
  refine wpAnyH_done (by kernel_rfl) ?_ _
  have hZ := B6.out.trans (hHeld.2.2.2.2.2.2.mono B6.out.size)
  have HZ := Lib.hid hZ
  clear hHeld hZ
  go_wp2_with fail
  go_ret
  exact ⟨rfl, HZ.out⟩
end Go.Proofs.Ytmmpbehgcejfaaa
