/- The order of two places; a look's step. -/
import Derived.Test.YtdfokceecnmocaaS16C
set_option linter.unusedVariables false
set_option linter.unusedSimpArgs false
namespace Go.Proofs.Ytdfokceecnmocaa.S16
open Go.Proofs.Ytdfokceecnmocaa Go.Proofs.Ytdfokceecnmocaa.S11 Go.Proofs.Ytdfokceecnmocaa.S12 Go.Proofs.Ytdfokceecnmocaa.S13 Go.Proofs.Ytdfokceecnmocaa.S14 Go.Proofs.Ytdfokceecnmocaa.S15
open Go.RowKit

set_option maxRecDepth 100000 in
set_option maxHeartbeats 4000000 in
theorem order_lt {bb ka kb : Nat} (h : kb < ka) (w : World) : Calls Try.prog 49 #[.agg #[.int .i64 (bb : Int), .int .i64 (ka : Int), .int .i64 (bb : Int), .int .i64 (kb : Int)]] w fun e w' => e = .returned (.agg #[.int .i64 (bb : Int), .int .i64 (kb : Int), .int .i64 (bb : Int), .int .i64 (ka : Int)]) ∧ Below w.heap.size w w' := by
  have h1 : decide (kb < ka) = true := decide_eq_true h
  have hb := (below1 w (.cells #[.int .i64 (bb : Int), .int .i64 (ka : Int), .int .i64 (bb : Int), .int .i64 (kb : Int)] 116)).alloc (by rw [alloc_size]; omega) (.cells #[.int .i64 (bb : Int), .int .i64 (kb : Int), .int .i64 (bb : Int), .int .i64 (ka : Int)] 116)
  have HB := Lib.hid hb
  clear h hb
  go_enter Try.func49, Try.ntmps49
  go_wp2_with fail
  exact bodyPost_ret (v := .agg #[.int .i64 (bb : Int), .int .i64 (kb : Int), .int .i64 (bb : Int), .int .i64 (ka : Int)]) (by simp [results, Try.results49, go_sem]) rfl ⟨rfl, HB.out⟩
set_option maxRecDepth 100000 in
set_option maxHeartbeats 4000000 in
theorem order_ge {bb ka kb : Nat} (h : ¬ kb < ka) (w : World) : Calls Try.prog 49 #[.agg #[.int .i64 (bb : Int), .int .i64 (ka : Int), .int .i64 (bb : Int), .int .i64 (kb : Int)]] w fun e w' => e = .returned (.agg #[.int .i64 (bb : Int), .int .i64 (ka : Int), .int .i64 (bb : Int), .int .i64 (kb : Int)]) ∧ Below w.heap.size w w' := by
  have h1 : decide (kb < ka) = false := decide_eq_false h
  have hb := (below1 w (.cells #[.int .i64 (bb : Int), .int .i64 (ka : Int), .int .i64 (bb : Int), .int .i64 (kb : Int)] 116)).alloc (by rw [alloc_size]; omega) (.cells #[.int .i64 (bb : Int), .int .i64 (ka : Int), .int .i64 (bb : Int), .int .i64 (kb : Int)] 116)
  have HB := Lib.hid hb
  clear h hb
  go_enter Try.func49, Try.ntmps49
  go_wp2_with fail
  exact bodyPost_ret (v := .agg #[.int .i64 (bb : Int), .int .i64 (ka : Int), .int .i64 (bb : Int), .int .i64 (kb : Int)]) (by simp [results, Try.results49, go_sem]) rfl ⟨rfl, HB.out⟩
set_option maxRecDepth 100000 in
/-- The buckets of two keys, as their locks are taken. -/
theorem order_any (a b x : Nat) : ∃ m1 m2 : Nat, m1 = bktN (loK a b x) x ∧ m2 = bktN (hiK a b x) x ∧ ∀ (bb : Nat) (W : World), Calls Try.prog 49 #[.agg #[.int .i64 (bb : Int), .int .i64 (bktN a x : Int), .int .i64 (bb : Int), .int .i64 (bktN b x : Int)]] W fun e w' => e = .returned (.agg #[.int .i64 (bb : Int), .int .i64 (m1 : Int), .int .i64 (bb : Int), .int .i64 (m2 : Int)]) ∧ Below W.heap.size W w' := by
  obtain ⟨ka, hka⟩ : ∃ ka, ka = bktN a x := ⟨_, rfl⟩
  obtain ⟨kb, hkb⟩ : ∃ kb, kb = bktN b x := ⟨_, rfl⟩
  rw [← hka, ← hkb]
  by_cases h : kb < ka
  · have e1 : loK a b x = b := if_pos (by rw [← hka, ← hkb]; exact h)
    have e2 : hiK a b x = a := if_pos (by rw [← hka, ← hkb]; exact h)
    rw [e1, e2]
    exact ⟨kb, ka, hkb, hka, fun bb W => order_lt h W⟩
  · have e1 : loK a b x = a := if_neg (by rw [← hka, ← hkb]; exact h)
    have e2 : hiK a b x = b := if_neg (by rw [← hka, ← hkb]; exact h)
    rw [e1, e2]
    exact ⟨ka, kb, hka, hkb, fun bb W => order_ge h W⟩
/-- A Pair's blocks behind its first line: what is left is the row from i on. -/
def twoL (B OR V1 XC TC KB OB V2 LB a b t x U1 U2 i n : Nat) : Rows :=
  [(B, .cells (pairC a b (bitsN x) (bktN a x) (bitsN x) (bktN b x) (.slice (some ⟨LB, i, none⟩) n n)) 120 (0, 0)), (OR, .cells #[.int .i64 (bitsN x : Int), .int .i64 (bktN (loK a b x) x : Int), .int .i64 (bitsN x : Int), .int .i64 (bktN (hiK a b x) x : Int)] 116 (0, 0)), (V1, .cells #[Pw U1] 172 (0, 0)), (XC, .cells #[Pw B] 56 (0, 0)), (TC, .cells #[.int .i64 (t : Int)] 3 (0, 0)), (KB, .cells #[.int .u64 (x : Int)] 25 (0, 0)), (OB, .cells #[.int .i64 (bitsN x : Int), .int .i64 (bktN (loK a b x) x : Int), .int .i64 (bitsN x : Int), .int .i64 (bktN (hiK a b x) x : Int)] 116 (0, 0)), (V2, .cells #[Pw U2] 172 (0, 0)), (LB, .cells #[takeF V1, askF KB OB XC TC, takeF V2] 121 (0, 0))]
section
variable {w0 w w' : World} {base WB : Nat} {M : Sd} {r : List Part} {j u v U : Nat} {l l' : Rows} {X : Wm}
theorem eqAt {w : World} {a : Addr} {v v' : Value} (h : w.cell? a = some v) (e : v = v') : w.cell? a = some v' := by rw [← e]; exact h
set_option maxRecDepth 100000 in
set_option maxHeartbeats 8000000 in
theorem look_step (h : Wq w0 w base WB M r j l X) (hn : M.n ≤ 1000000000) (hju : j ≠ u) (hjv : j ≠ v) (huv : u ≠ v) (hu : u < r.length) (hv : v < r.length) {x : Nat} (hx : x = S2.look M.L 0) {k0 kx kt B XB TB a b t : Nat} {p1 q1 p2 q2 : Int} {left : Value} (ht : t < 64) (ha : a < 4294967296) (hbl : b < 4294967296)
    (hb : l[k0]? = some (B, .cells (pairC a b p1 q1 p2 q2 left) 120 (0, 0))) (hxb : l[kx]? = some (XB, .cells #[Pw B] 56 (0, 0))) (htb : l[kt]? = some (TB, .cells #[.int .i64 (t : Int)] 3 (0, 0))) (hne : k0 ≠ kx) (hne2 : k0 ≠ kt) :
    Calls Try.prog 47 #[Pw WB, Pw XB, Pw TB] w fun e w' => e = .returned (.bool true) ∧ ∃ X' U1 U2 OR V1 XC TC KB OB V2 LB, Wq w0 w' base WB (M.acc 1 0 x) ((r.set u (lockP U1 (lk1 t (lokN (loK a b x) x)))).set v (lockP U2 (lk1 t (lokN (hiK a b x) x)))) j (twoL B OR V1 XC TC KB OB V2 LB a b t x U1 U2 0 3) X' := by
  have hxu : x < 18446744073709551616 := by rw [hx]; exact h.look _
  have c1 : w.cell? ⟨WB, 0, none⟩ = some (Pw X.cB) := h.pg.c.1
  obtain ⟨cb, hcb⟩ : ∃ cb, X.cB = cb := ⟨_, rfl⟩
  have hd := h
  have hld : Calls Try.prog 48 #[Pw cb, .int .u32 0] w fun e w' => e = .returned (.int .u64 (x : Int)) ∧ ∃ X5, Wq w0 w' base WB (M.acc 1 0 x) r j l X5 := by
    subst hcb
    refine (hd.load (a := 0) (by omega) hn).mono ?_
    rintro e w' ⟨rfl, X5, h5, _⟩
    exact ⟨by rw [hx], X5, by rw [hx]; exact h5⟩
  obtain ⟨m1, m2, hm1, hm2, hord⟩ := order_any a b x
  have hpa := fun W => place_any a x ha hxu W
  have hpb := fun W => place_any b x hbl hxu W
  unfold placeV at hpa hpb
  obtain ⟨bb, hbb⟩ : ∃ bb, bb = bitsN x := ⟨_, rfl⟩
  obtain ⟨ka, hka⟩ : ∃ ka, ka = bktN a x := ⟨_, rfl⟩
  obtain ⟨kb, hkb⟩ : ∃ kb, kb = bktN b x := ⟨_, rfl⟩
  have hord2 := hord bb
  rw [← hka, ← hkb] at hord2
  rw [← hbb, ← hka] at hpa
  rw [← hbb, ← hkb] at hpb
  rw [hcb] at c1
  have HLD := Lib.hid hld; have HPA := Lib.hid hpa; have HPB := Lib.hid hpb; have HORD := Lib.hid hord2
  have HB0 := Lib.hid hb; have HXB := Lib.hid hxb; have HTB := Lib.hid htb; have HNE := Lib.hid hne; have HNE2 := Lib.hid hne2
  have HBB := Lib.hid hbb; have HKA := Lib.hid hka; have HKB := Lib.hid hkb; have HM1 := Lib.hid hm1; have HM2 := Lib.hid hm2
  have HUV := Lib.hid (And.intro hju (And.intro hjv (And.intro huv (And.intro hu hv)))); have HT := Lib.hid ht
  have HKL := Lib.hid (List.getElem?_eq_some_iff.1 hb).1
  clear h hd hld hn hx hxu hcb hord hord2 hpa hpb hb hxb htb hne hne2 hbb hka hkb hm1 hm2 hju hjv huv hu hv ht ha hbl
  have ix0 : ∀ W : World, (Instr.index 115 (.agg #[.int .u32 (a : Int), .int .u32 (b : Int)]) (.int .i64 0)).run Try.prog W = .ok (.int .u32 (a : Int)) W := fun W => by kernel_rfl
  have ix1 : ∀ W : World, (Instr.index 115 (.agg #[.int .u32 (a : Int), .int .u32 (b : Int)]) (.int .i64 1)).run Try.prog W = .ok (.int .u32 (b : Int)) W := fun W => by kernel_rfl
  go_enter Try.func47, Try.ntmps47
  go_upto_region 2 with (go_at_call 48; refine HLD.out.mono ?_; rintro e w1 ⟨rfl, X1, h1⟩; have H1 := Lib.hid h1; clear h1)
  clear c1 HLD
  have x0 : w1.cell? ⟨XB, 0, none⟩ = some (Pw B) := cell_row (H1.out.blk _ HXB.out) 0
  have e0 : w1.cell? ⟨B, 0, none⟩ = some (.int .u32 (a : Int)) := cell_row (H1.out.blk _ HB0.out) 0
  have e1 : w1.cell? ⟨B, 1, none⟩ = some (.int .u32 (b : Int)) := cell_row (H1.out.blk _ HB0.out) 1
  go_wp2_with fail
  refine wp_loop_rounds 3 ?_
  rw [rounds_succ]
  refine wp_seq ?_
  go_upto_region 5 with (fail)
  refine wp_region_held_drew (S := fun w' => w'.cell? ⟨XB, 0, none⟩ = some (Pw B)) (by kernel_rfl) ?_ (fun hHeld => ?_)
  · exact cell_row ((H1.out.new (Below.refl _ _).drew).blk _ HXB.out) 0
  refine wpAnyH_take (i := 0) (oi := ({ dst := some 22, op := Op.load 56 (Operand.tmp 1), type := 56, pos := "pairs.go:83", after := #[], guard := none } : Oper)) (v := ?vram1) rfl (by kernel_rfl) (by kernel_rfl) (by kernel_rfl) (fun _ _ _ h => h) (Or.inl ⟨by rfl, fun w hSw => ?hyram1⟩) (by assumption) ?rram1
  case hyram1 => (try dsimp only at hSw); go_simp; (try with_reducible rfl)
  (try simp only [Act.put, List.setIfInBounds_toArray, List.set_cons_zero, List.set_cons_succ])
  refine wpAnyH_take (i := 1) (oi := ({ dst := some 23, op := Op.move (Operand.tmp 6), type := 3, pos := "pairs.go:83", after := #[], guard := none } : Oper)) (v := ?vram2) rfl (by kernel_rfl) (by kernel_rfl) (by kernel_rfl) (fun _ _ _ h => h) (Or.inl ⟨by rfl, fun w hSw => ?hyram2⟩) (by assumption) ?rram2
  case hyram2 => (try dsimp only at hSw); go_simp; (try with_reducible rfl)
  (try simp only [Act.put, List.setIfInBounds_toArray, List.set_cons_zero, List.set_cons_succ])
  refine wpAnyH_take (i := 2) (oi := ({ dst := some 24, op := Op.move (Operand.tmp 7), type := 37, pos := "pairs.go:83", after := #[], guard := none } : Oper)) (v := ?vram3) rfl (by kernel_rfl) (by kernel_rfl) (by kernel_rfl) (fun _ _ _ h => h) (Or.inl ⟨by rfl, fun w hSw => ?hyram3⟩) (by assumption) ?rram3
  case hyram3 => (try dsimp only at hSw); go_simp; (try with_reducible rfl)
  (try simp only [Act.put, List.setIfInBounds_toArray, List.set_cons_zero, List.set_cons_succ])
  refine wpAnyH_take (i := 3) (oi := ({ dst := some 25, op := Op.move (Operand.tmp 5), type := 25, pos := "pairs.go:83", after := #[], guard := none } : Oper)) (v := ?vram4) rfl (by kernel_rfl) (by kernel_rfl) (by kernel_rfl) (fun _ _ _ h => h) (Or.inl ⟨by rfl, fun w hSw => ?hyram4⟩) (by assumption) ?rram4
  case hyram4 => (try dsimp only at hSw); go_simp; (try with_reducible rfl)
  (try simp only [Act.put, List.setIfInBounds_toArray, List.set_cons_zero, List.set_cons_succ])
  refine wpAnyH_take (i := 5) (oi := ({ dst := some 27, op := Op.nilCheck (Operand.tmp 22), type := 0, pos := "pairs.go:83", after := #[{ on := 0, ground := Ground.data }], guard := none } : Oper)) (v := ?vram5) rfl (by kernel_rfl) (by kernel_rfl) (by kernel_rfl) (fun _ _ _ h => h) (Or.inl ⟨by rfl, fun w hSw => ?hyram5⟩) (by assumption) ?rram5
  case hyram5 => (try dsimp only at hSw); go_simp; (try with_reducible rfl)
  (try simp only [Act.put, List.setIfInBounds_toArray, List.set_cons_zero, List.set_cons_succ])
  refine wpAnyH_take (i := 6) (oi := ({ dst := some 28, op := Op.fieldAddr 120 (Operand.tmp 27) 1, type := 0, pos := "pairs.go:83", after := #[{ on := 5, ground := Ground.data }], guard := none } : Oper)) (v := ?vram6) rfl (by kernel_rfl) (by kernel_rfl) (by kernel_rfl) (fun _ _ _ h => h) (Or.inl ⟨by rfl, fun w hSw => ?hyram6⟩) (by assumption) ?rram6
  case hyram6 => (try dsimp only at hSw); go_simp; (try with_reducible rfl)
  (try simp only [Act.put, List.setIfInBounds_toArray, List.set_cons_zero, List.set_cons_succ])
  refine wpAnyH_ready (rs := [4]) (by kernel_rfl) (by simp) ?_
  refine AllReadyH.cons (o := ({ dst := some 26, op := Op.call { callee := Callee.value (Operand.func 7), args := #[Operand.tmp 24, Operand.tmp 25], argTypes := #[37, 25] }, type := 39, pos := "pairs.go:83", after := #[{ on := 2, ground := Ground.data }, { on := 3, ground := Ground.data }], guard := none } : Oper)) rfl (fun Kq hKq => ?_) AllReadyH.nil
  go_simp
  (refine (HPA.out _).mono ?_; rintro e w1a ⟨rfl, hb2⟩; have H2 := Lib.hid ((H1.out.new (Below.refl _ _).drew).new hb2); clear hb2)
  refine hKq.out _ _ ?_ (fun hHeld => ?_)
  · exact cell_row (H2.out.blk _ HXB.out) 0
  clear hKq Kq
  (try simp only [Act.put, List.setIfInBounds_toArray, List.set_cons_zero, List.set_cons_succ])
  refine wpAnyH_take (i := 7) (oi := ({ dst := some 29, op := Op.indexAddr 116 (Operand.tmp 28) (Operand.tmp 23), type := 0, pos := "pairs.go:83", after := #[{ on := 6, ground := Ground.data }, { on := 1, ground := Ground.data }, { on := 0, ground := Ground.phase }, { on := 1, ground := Ground.phase }, { on := 2, ground := Ground.phase }, { on := 3, ground := Ground.phase }, { on := 4, ground := Ground.phase }], guard := none } : Oper)) (v := ?vram7) rfl (by kernel_rfl) (by kernel_rfl) (by kernel_rfl) (fun _ _ _ h => h) (Or.inl ⟨by rfl, fun w hSw => ?hyram7⟩) (by assumption) ?rram7
  case hyram7 => (try dsimp only at hSw); go_simp; (try with_reducible rfl)
  (try simp only [Act.put, List.setIfInBounds_toArray, List.set_cons_zero, List.set_cons_succ])
  refine wpAnyH_ready (rs := [8]) (by kernel_rfl) (by simp) ?_
  refine AllReadyH.cons (o := ({ dst := none, op := Op.store 39 (Operand.tmp 29) (Operand.tmp 26), type := 0, pos := "pairs.go:83", after := #[{ on := 7, ground := Ground.data }, { on := 4, ground := Ground.data }, { on := 4, ground := Ground.chain }, { on := 0, ground := Ground.phase }, { on := 1, ground := Ground.phase }, { on := 2, ground := Ground.phase }, { on := 3, ground := Ground.phase }, { on := 4, ground := Ground.phase }], guard := none } : Oper)) rfl (fun Kq hKq => ?_) AllReadyH.nil
  (have y1 : w1a.cell? ⟨B, 2, none⟩ = some (.int .i64 p1) := cell_row (H2.out.blk _ HB0.out) 2; have y2 : w1a.cell? ⟨B, 3, none⟩ = some (.int .i64 q1) := cell_row (H2.out.blk _ HB0.out) 3; have f1 : w1a.frozen? ⟨B, 2, none⟩ = false := froz_row (H2.out.blk _ HB0.out) 2; have f2 : w1a.frozen? ⟨B, 3, none⟩ = false := froz_row (H2.out.blk _ HB0.out) 3; go_simp; have h3 := (H2.out.put _ HB0.out 2 (.int .i64 (bb : Int)) rfl).put _ (List.getElem?_set_self HKL.out) 3 (.int .i64 (ka : Int)) rfl; rw [List.set_set] at h3; have H3 := Lib.hid h3; clear y1 y2 f1 f2 h3; generalize (w1a.setCell ⟨B, 2, none⟩ (.int .i64 (bb : Int))).setCell ⟨B, 3, none⟩ (.int .i64 (ka : Int)) = w1b at *)
  refine hKq.out _ _ ?_ (fun hHeld => ?_)
  · exact cell_row (H3.out.blk _ (set_at2 HXB.out HNE.out)) 0
  clear hKq Kq
  (try simp only [Act.put, List.setIfInBounds_toArray, List.set_cons_zero, List.set_cons_succ])
  refine wpAnyH_done (by kernel_rfl) ?_ _
  clear hHeld x0 e0 e1
  go_wp2_with fail
  (try simp only [Exit.inBlock, Exit.then])
  rw [rounds_succ]
  refine wp_seq ?_
  go_upto_region 5 with (fail)
  refine wp_region_held_drew (S := fun w' => w'.cell? ⟨XB, 0, none⟩ = some (Pw B)) (by kernel_rfl) ?_ (fun hHeld => ?_)
  · exact cell_row ((H3.out.new (Below.refl _ _).drew).blk _ (set_at2 HXB.out HNE.out)) 0
  refine wpAnyH_take (i := 0) (oi := ({ dst := some 22, op := Op.load 56 (Operand.tmp 1), type := 56, pos := "pairs.go:83", after := #[], guard := none } : Oper)) (v := ?vrbm1) rfl (by kernel_rfl) (by kernel_rfl) (by kernel_rfl) (fun _ _ _ h => h) (Or.inl ⟨by rfl, fun w hSw => ?hyrbm1⟩) (by assumption) ?rrbm1
  case hyrbm1 => (try dsimp only at hSw); go_simp; (try with_reducible rfl)
  (try simp only [Act.put, List.setIfInBounds_toArray, List.set_cons_zero, List.set_cons_succ])
  refine wpAnyH_take (i := 1) (oi := ({ dst := some 23, op := Op.move (Operand.tmp 6), type := 3, pos := "pairs.go:83", after := #[], guard := none } : Oper)) (v := ?vrbm2) rfl (by kernel_rfl) (by kernel_rfl) (by kernel_rfl) (fun _ _ _ h => h) (Or.inl ⟨by rfl, fun w hSw => ?hyrbm2⟩) (by assumption) ?rrbm2
  case hyrbm2 => (try dsimp only at hSw); go_simp; (try with_reducible rfl)
  (try simp only [Act.put, List.setIfInBounds_toArray, List.set_cons_zero, List.set_cons_succ])
  refine wpAnyH_take (i := 2) (oi := ({ dst := some 24, op := Op.move (Operand.tmp 7), type := 37, pos := "pairs.go:83", after := #[], guard := none } : Oper)) (v := ?vrbm3) rfl (by kernel_rfl) (by kernel_rfl) (by kernel_rfl) (fun _ _ _ h => h) (Or.inl ⟨by rfl, fun w hSw => ?hyrbm3⟩) (by assumption) ?rrbm3
  case hyrbm3 => (try dsimp only at hSw); go_simp; (try with_reducible rfl)
  (try simp only [Act.put, List.setIfInBounds_toArray, List.set_cons_zero, List.set_cons_succ])
  refine wpAnyH_take (i := 3) (oi := ({ dst := some 25, op := Op.move (Operand.tmp 5), type := 25, pos := "pairs.go:83", after := #[], guard := none } : Oper)) (v := ?vrbm4) rfl (by kernel_rfl) (by kernel_rfl) (by kernel_rfl) (fun _ _ _ h => h) (Or.inl ⟨by rfl, fun w hSw => ?hyrbm4⟩) (by assumption) ?rrbm4
  case hyrbm4 => (try dsimp only at hSw); go_simp; (try with_reducible rfl)
  (try simp only [Act.put, List.setIfInBounds_toArray, List.set_cons_zero, List.set_cons_succ])
  refine wpAnyH_take (i := 5) (oi := ({ dst := some 27, op := Op.nilCheck (Operand.tmp 22), type := 0, pos := "pairs.go:83", after := #[{ on := 0, ground := Ground.data }], guard := none } : Oper)) (v := ?vrbm5) rfl (by kernel_rfl) (by kernel_rfl) (by kernel_rfl) (fun _ _ _ h => h) (Or.inl ⟨by rfl, fun w hSw => ?hyrbm5⟩) (by assumption) ?rrbm5
  case hyrbm5 => (try dsimp only at hSw); go_simp; (try with_reducible rfl)
  (try simp only [Act.put, List.setIfInBounds_toArray, List.set_cons_zero, List.set_cons_succ])
  refine wpAnyH_take (i := 6) (oi := ({ dst := some 28, op := Op.fieldAddr 120 (Operand.tmp 27) 1, type := 0, pos := "pairs.go:83", after := #[{ on := 5, ground := Ground.data }], guard := none } : Oper)) (v := ?vrbm6) rfl (by kernel_rfl) (by kernel_rfl) (by kernel_rfl) (fun _ _ _ h => h) (Or.inl ⟨by rfl, fun w hSw => ?hyrbm6⟩) (by assumption) ?rrbm6
  case hyrbm6 => (try dsimp only at hSw); go_simp; (try with_reducible rfl)
  (try simp only [Act.put, List.setIfInBounds_toArray, List.set_cons_zero, List.set_cons_succ])
  refine wpAnyH_ready (rs := [4]) (by kernel_rfl) (by simp) ?_
  refine AllReadyH.cons (o := ({ dst := some 26, op := Op.call { callee := Callee.value (Operand.func 7), args := #[Operand.tmp 24, Operand.tmp 25], argTypes := #[37, 25] }, type := 39, pos := "pairs.go:83", after := #[{ on := 2, ground := Ground.data }, { on := 3, ground := Ground.data }], guard := none } : Oper)) rfl (fun Kq hKq => ?_) AllReadyH.nil
  go_simp
  (refine (HPB.out _).mono ?_; rintro e w1ba ⟨rfl, hb4⟩; have H4 := Lib.hid ((H3.out.new (Below.refl _ _).drew).new hb4); clear hb4)
  refine hKq.out _ _ ?_ (fun hHeld => ?_)
  · exact cell_row (H4.out.blk _ (set_at2 HXB.out HNE.out)) 0
  clear hKq Kq
  (try simp only [Act.put, List.setIfInBounds_toArray, List.set_cons_zero, List.set_cons_succ])
  refine wpAnyH_take (i := 7) (oi := ({ dst := some 29, op := Op.indexAddr 116 (Operand.tmp 28) (Operand.tmp 23), type := 0, pos := "pairs.go:83", after := #[{ on := 6, ground := Ground.data }, { on := 1, ground := Ground.data }, { on := 0, ground := Ground.phase }, { on := 1, ground := Ground.phase }, { on := 2, ground := Ground.phase }, { on := 3, ground := Ground.phase }, { on := 4, ground := Ground.phase }], guard := none } : Oper)) (v := ?vrbm7) rfl (by kernel_rfl) (by kernel_rfl) (by kernel_rfl) (fun _ _ _ h => h) (Or.inl ⟨by rfl, fun w hSw => ?hyrbm7⟩) (by assumption) ?rrbm7
  case hyrbm7 => (try dsimp only at hSw); go_simp; (try with_reducible rfl)
  (try simp only [Act.put, List.setIfInBounds_toArray, List.set_cons_zero, List.set_cons_succ])
  refine wpAnyH_ready (rs := [8]) (by kernel_rfl) (by simp) ?_
  refine AllReadyH.cons (o := ({ dst := none, op := Op.store 39 (Operand.tmp 29) (Operand.tmp 26), type := 0, pos := "pairs.go:83", after := #[{ on := 7, ground := Ground.data }, { on := 4, ground := Ground.data }, { on := 4, ground := Ground.chain }, { on := 0, ground := Ground.phase }, { on := 1, ground := Ground.phase }, { on := 2, ground := Ground.phase }, { on := 3, ground := Ground.phase }, { on := 4, ground := Ground.phase }], guard := none } : Oper)) rfl (fun Kq hKq => ?_) AllReadyH.nil
  (have y1 : w1ba.cell? ⟨B, 4, none⟩ = some (.int .i64 p2) := cell_row (H4.out.blk _ (List.getElem?_set_self HKL.out)) 4; have y2 : w1ba.cell? ⟨B, 5, none⟩ = some (.int .i64 q2) := cell_row (H4.out.blk _ (List.getElem?_set_self HKL.out)) 5; have f1 : w1ba.frozen? ⟨B, 4, none⟩ = false := froz_row (H4.out.blk _ (List.getElem?_set_self HKL.out)) 4; have f2 : w1ba.frozen? ⟨B, 5, none⟩ = false := froz_row (H4.out.blk _ (List.getElem?_set_self HKL.out)) 5; go_simp; have h5 := (H4.out.put _ (List.getElem?_set_self HKL.out) 4 (.int .i64 (bb : Int)) rfl).put _ (List.getElem?_set_self (by rw [List.length_set]; exact HKL.out)) 5 (.int .i64 (kb : Int)) rfl; rw [List.set_set, List.set_set] at h5; have H5 := Lib.hid h5; clear y1 y2 f1 f2 h5; generalize (w1ba.setCell ⟨B, 4, none⟩ (.int .i64 (bb : Int))).setCell ⟨B, 5, none⟩ (.int .i64 (kb : Int)) = w1bb at *)
  refine hKq.out _ _ ?_ (fun hHeld => ?_)
  · exact cell_row (H5.out.blk _ (set_at2 HXB.out HNE.out)) 0
  clear hKq Kq
  (try simp only [Act.put, List.setIfInBounds_toArray, List.set_cons_zero, List.set_cons_succ])
  refine wpAnyH_done (by kernel_rfl) ?_ _
  clear hHeld
  go_wp2_with fail
  (try simp only [Exit.inBlock, Exit.then])
  rw [rounds_succ]
  refine wp_seq ?_
  go_upto_region 7 with (fail)
  have x0 : w1bb.cell? ⟨XB, 0, none⟩ = some (Pw B) := cell_row (H5.out.blk _ (set_at2 HXB.out HNE.out)) 0
  have e2 : w1bb.cell? ⟨B, 2, none⟩ = some (.int .i64 (bb : Int)) := cell_row (H5.out.blk _ (List.getElem?_set_self HKL.out)) 2
  have e3 : w1bb.cell? ⟨B, 3, none⟩ = some (.int .i64 (ka : Int)) := cell_row (H5.out.blk _ (List.getElem?_set_self HKL.out)) 3
  have e4 : w1bb.cell? ⟨B, 4, none⟩ = some (.int .i64 (bb : Int)) := cell_row (H5.out.blk _ (List.getElem?_set_self HKL.out)) 4
  have e5 : w1bb.cell? ⟨B, 5, none⟩ = some (.int .i64 (kb : Int)) := cell_row (H5.out.blk _ (List.getElem?_set_self HKL.out)) 5
  go_upto_region 8 with (go_at_call 49; refine (HORD.out _).mono ?_; rintro e w6 ⟨rfl, hb6⟩; have H6 := Lib.hid (H5.out.new hb6); clear hb6)
  have h7 := H6.out.push (.cells #[.int .i64 (bb : Int), .int .i64 (m1 : Int), .int .i64 (bb : Int), .int .i64 (m2 : Int)] 116)
  obtain ⟨OR, hOR⟩ : ∃ OR, OR = w6.heap.size := ⟨_, rfl⟩
  rw [← hOR] at h7 ⊢
  have H7 := Lib.hid h7
  clear h7 hOR x0 e2 e3 e4 e5 H6
  generalize w6.alloc (.cells #[.int .i64 (bb : Int), .int .i64 (m1 : Int), .int .i64 (bb : Int), .int .i64 (m2 : Int)] 116) = w7 at *
  refine wp_region_held_drew (S := fun w' => w'.cell? ⟨XB, 0, none⟩ = some (Pw B) ∧ w'.cell? ⟨TB, 0, none⟩ = some (.int .i64 (t : Int)) ∧ w'.cell? ⟨OR, 0, none⟩ = some (.int .i64 (bb : Int)) ∧ w'.cell? ⟨OR, 1, none⟩ = some (.int .i64 (m1 : Int)) ∧ w'.cell? ⟨OR, 2, none⟩ = some (.int .i64 (bb : Int)) ∧ w'.cell? ⟨OR, 3, none⟩ = some (.int .i64 (m2 : Int))) (by kernel_rfl) ?_ (fun hHeld => ?_)
  · exact ⟨cell_row ((H7.out.new (Below.refl _ _).drew).blk _ (app1 (set_at2 HXB.out HNE.out))) 0, cell_row ((H7.out.new (Below.refl _ _).drew).blk _ (app1 (set_at2 HTB.out HNE2.out))) 0, cell_row ((H7.out.new (Below.refl _ _).drew).blk _ (at_end _ _)) 0, cell_row ((H7.out.new (Below.refl _ _).drew).blk _ (at_end _ _)) 1, cell_row ((H7.out.new (Below.refl _ _).drew).blk _ (at_end _ _)) 2, cell_row ((H7.out.new (Below.refl _ _).drew).blk _ (at_end _ _)) 3⟩
  refine wpAnyH_take (i := 0) (oi := ({ dst := some 36, op := Op.load 56 (Operand.tmp 1), type := 56, pos := "pairs.go:86", after := #[], guard := none } : Oper)) (v := ?vrcm1) rfl (by kernel_rfl) (by kernel_rfl) (by kernel_rfl) (fun _ _ _ h => h) (Or.inl ⟨by rfl, fun w hSw => ?hyrcm1⟩) (by assumption) ?rrcm1
  case hyrcm1 => (try dsimp only at hSw); go_simp; (try with_reducible rfl)
  (try simp only [Act.put, List.setIfInBounds_toArray, List.set_cons_zero, List.set_cons_succ])
  refine wpAnyH_take (i := 1) (oi := ({ dst := some 37, op := Op.load 3 (Operand.tmp 2), type := 3, pos := "pairs.go:86", after := #[], guard := none } : Oper)) (v := ?vrcm2) rfl (by kernel_rfl) (by kernel_rfl) (by kernel_rfl) (fun _ _ _ h => h) (Or.inl ⟨by rfl, fun w hSw => ?hyrcm2⟩) (by assumption) ?rrcm2
  case hyrcm2 => (try dsimp only at hSw); go_simp; (try with_reducible rfl)
  (try simp only [Act.put, List.setIfInBounds_toArray, List.set_cons_zero, List.set_cons_succ])
  refine wpAnyH_take (i := 2) (oi := ({ dst := some 38, op := Op.indexAddr 116 (Operand.tmp 8) (Operand.const (Value.int IntKind.i64 0)), type := 0, pos := "pairs.go:86", after := #[], guard := none } : Oper)) (v := ?vrcm3) rfl (by kernel_rfl) (by kernel_rfl) (by kernel_rfl) (fun _ _ _ h => h) (Or.inl ⟨by rfl, fun w hSw => ?hyrcm3⟩) (by assumption) ?rrcm3
  case hyrcm3 => (try dsimp only at hSw); go_simp; (try with_reducible rfl)
  (try simp only [Act.put, List.setIfInBounds_toArray, List.set_cons_zero, List.set_cons_succ])
  refine wpAnyH_take (i := 3) (oi := ({ dst := some 39, op := Op.load 39 (Operand.tmp 38), type := 39, pos := "pairs.go:86", after := #[{ on := 2, ground := Ground.data }], guard := none } : Oper)) (v := ?vrcm4) rfl (by kernel_rfl) (by kernel_rfl) (by kernel_rfl) (fun _ _ _ h => h) (Or.inl ⟨by rfl, fun w hSw => ?hyrcm4⟩) (by assumption) ?rrcm4
  case hyrcm4 => (try dsimp only at hSw); go_simp; (try with_reducible rfl)
  (try simp only [Act.put, List.setIfInBounds_toArray, List.set_cons_zero, List.set_cons_succ])
  refine wpAnyH_take (i := 5) (oi := ({ dst := some 41, op := Op.load 56 (Operand.tmp 1), type := 56, pos := "pairs.go:86", after := #[], guard := none } : Oper)) (v := ?vrcm5) rfl (by kernel_rfl) (by kernel_rfl) (by kernel_rfl) (fun _ _ _ h => h) (Or.inl ⟨by rfl, fun w hSw => ?hyrcm5⟩) (by assumption) ?rrcm5
  case hyrcm5 => (try dsimp only at hSw); go_simp; (try with_reducible rfl)
  (try simp only [Act.put, List.setIfInBounds_toArray, List.set_cons_zero, List.set_cons_succ])
  refine wpAnyH_take (i := 6) (oi := ({ dst := some 42, op := Op.load 3 (Operand.tmp 2), type := 3, pos := "pairs.go:86", after := #[], guard := none } : Oper)) (v := ?vrcm6) rfl (by kernel_rfl) (by kernel_rfl) (by kernel_rfl) (fun _ _ _ h => h) (Or.inl ⟨by rfl, fun w hSw => ?hyrcm6⟩) (by assumption) ?rrcm6
  case hyrcm6 => (try dsimp only at hSw); go_simp; (try with_reducible rfl)
  (try simp only [Act.put, List.setIfInBounds_toArray, List.set_cons_zero, List.set_cons_succ])
  refine wpAnyH_take (i := 7) (oi := ({ dst := some 43, op := Op.move (Operand.tmp 5), type := 25, pos := "pairs.go:86", after := #[], guard := none } : Oper)) (v := ?vrcm7) rfl (by kernel_rfl) (by kernel_rfl) (by kernel_rfl) (fun _ _ _ h => h) (Or.inl ⟨by rfl, fun w hSw => ?hyrcm7⟩) (by assumption) ?rrcm7
  case hyrcm7 => (try dsimp only at hSw); go_simp; (try with_reducible rfl)
  (try simp only [Act.put, List.setIfInBounds_toArray, List.set_cons_zero, List.set_cons_succ])
  refine wpAnyH_take (i := 8) (oi := ({ dst := some 44, op := Op.load 116 (Operand.tmp 8), type := 116, pos := "pairs.go:86", after := #[], guard := none } : Oper)) (v := ?vrcm8) rfl (by kernel_rfl) (by kernel_rfl) (by kernel_rfl) (fun _ _ _ h => h) (Or.inl ⟨by rfl, fun w hSw => ?hyrcm8⟩) (by assumption) ?rrcm8
  case hyrcm8 => (try dsimp only at hSw); go_simp; (try with_reducible rfl)
  (try simp only [Act.put, List.setIfInBounds_toArray, List.set_cons_zero, List.set_cons_succ])
  refine wpAnyH_take (i := 10) (oi := ({ dst := some 46, op := Op.load 3 (Operand.tmp 2), type := 3, pos := "pairs.go:86", after := #[], guard := none } : Oper)) (v := ?vrcm9) rfl (by kernel_rfl) (by kernel_rfl) (by kernel_rfl) (fun _ _ _ h => h) (Or.inl ⟨by rfl, fun w hSw => ?hyrcm9⟩) (by assumption) ?rrcm9
  case hyrcm9 => (try dsimp only at hSw); go_simp; (try with_reducible rfl)
  (try simp only [Act.put, List.setIfInBounds_toArray, List.set_cons_zero, List.set_cons_succ])
  refine wpAnyH_take (i := 11) (oi := ({ dst := some 47, op := Op.indexAddr 116 (Operand.tmp 8) (Operand.const (Value.int IntKind.i64 1)), type := 0, pos := "pairs.go:86", after := #[], guard := none } : Oper)) (v := ?vrcm10) rfl (by kernel_rfl) (by kernel_rfl) (by kernel_rfl) (fun _ _ _ h => h) (Or.inl ⟨by rfl, fun w hSw => ?hyrcm10⟩) (by assumption) ?rrcm10
  case hyrcm10 => (try dsimp only at hSw); go_simp; (try with_reducible rfl)
  (try simp only [Act.put, List.setIfInBounds_toArray, List.set_cons_zero, List.set_cons_succ])
  refine wpAnyH_take (i := 12) (oi := ({ dst := some 48, op := Op.load 39 (Operand.tmp 47), type := 39, pos := "pairs.go:86", after := #[{ on := 11, ground := Ground.data }], guard := none } : Oper)) (v := ?vrcm11) rfl (by kernel_rfl) (by kernel_rfl) (by kernel_rfl) (fun _ _ _ h => h) (Or.inl ⟨by rfl, fun w hSw => ?hyrcm11⟩) (by assumption) ?rrcm11
  case hyrcm11 => (try dsimp only at hSw); go_simp; (try with_reducible rfl)
  (try simp only [Act.put, List.setIfInBounds_toArray, List.set_cons_zero, List.set_cons_succ])
  refine wpAnyH_ready (rs := [4]) (by kernel_rfl) (by simp) ?_
  refine AllReadyH.cons (o := ({ dst := some 40, op := Op.call { callee := Callee.value (Operand.func 50), args := #[Operand.tmp 37, Operand.tmp 39], argTypes := #[3, 39] }, type := 121, pos := "pairs.go:86", after := #[{ on := 1, ground := Ground.data }, { on := 3, ground := Ground.data }], guard := none } : Oper)) rfl (fun Kq hKq => ?_) AllReadyH.nil
  go_simp
  (refine (take_new (H7.out.new (Below.refl _ _).drew) HUV.out.1 HUV.out.2.2.2.1 HT.out (key := loK a b x) (tw := x) (congrArg Nat.cast HBB.out) (congrArg Nat.cast HM1.out)).mono ?_; rintro e w8 ⟨V1, U1, rfl, _, h8⟩; have H8 := Lib.hid h8; clear h8)
  refine hKq.out _ _ ?_ (fun hHeld => ?_)
  · exact ⟨cell_row (H8.out.blk _ (app1 (app1 (set_at2 HXB.out HNE.out)))) 0, cell_row (H8.out.blk _ (app1 (app1 (set_at2 HTB.out HNE2.out)))) 0, cell_row (H8.out.blk _ (app1 (at_end _ _))) 0, cell_row (H8.out.blk _ (app1 (at_end _ _))) 1, cell_row (H8.out.blk _ (app1 (at_end _ _))) 2, cell_row (H8.out.blk _ (app1 (at_end _ _))) 3⟩
  clear hKq Kq
  (try simp only [Act.put, List.setIfInBounds_toArray, List.set_cons_zero, List.set_cons_succ])
  refine wpAnyH_ready (rs := [9]) (by kernel_rfl) (by simp) ?_
  refine AllReadyH.cons (o := ({ dst := some 45, op := Op.call { callee := Callee.value (Operand.func 51), args := #[Operand.tmp 41, Operand.tmp 42, Operand.tmp 43, Operand.tmp 44], argTypes := #[56, 3, 25, 116] }, type := 121, pos := "pairs.go:86", after := #[{ on := 5, ground := Ground.data }, { on := 6, ground := Ground.data }, { on := 7, ground := Ground.data }, { on := 8, ground := Ground.data }, { on := 4, ground := Ground.chain }], guard := none } : Oper)) rfl (fun Kq hKq => ?_) AllReadyH.nil
  go_simp
  (refine (ask_new H8.out B t x (bb : Int) (m1 : Int) (bb : Int) (m2 : Int)).mono ?_; rintro e w9 ⟨rfl, h9⟩; have H9 := Lib.hid h9; clear h9)
  refine hKq.out _ _ ?_ (fun hHeld => ?_)
  · exact ⟨cell_row (H9.out.blk _ (app2 (app1 (set_at2 HXB.out HNE.out)))) 0, cell_row (H9.out.blk _ (app2 (app1 (set_at2 HTB.out HNE2.out)))) 0, cell_row (H9.out.blk _ (app2 (at_end _ _))) 0, cell_row (H9.out.blk _ (app2 (at_end _ _))) 1, cell_row (H9.out.blk _ (app2 (at_end _ _))) 2, cell_row (H9.out.blk _ (app2 (at_end _ _))) 3⟩
  clear hKq Kq
  (try simp only [Act.put, List.setIfInBounds_toArray, List.set_cons_zero, List.set_cons_succ])
  refine wpAnyH_ready (rs := [13]) (by kernel_rfl) (by simp) ?_
  refine AllReadyH.cons (o := ({ dst := some 49, op := Op.call { callee := Callee.value (Operand.func 50), args := #[Operand.tmp 46, Operand.tmp 48], argTypes := #[3, 39] }, type := 121, pos := "pairs.go:86", after := #[{ on := 10, ground := Ground.data }, { on := 12, ground := Ground.data }, { on := 9, ground := Ground.chain }], guard := none } : Oper)) rfl (fun Kq hKq => ?_) AllReadyH.nil
  go_simp
  (refine (take_new H9.out HUV.out.2.1 (by rw [List.length_set]; exact HUV.out.2.2.2.2) HT.out (key := hiK a b x) (tw := x) (congrArg Nat.cast HBB.out) (congrArg Nat.cast HM2.out)).mono ?_; rintro e w10 ⟨V2, U2, rfl, _, h10⟩; have H10 := Lib.hid h10; clear h10)
  refine hKq.out _ _ ?_ (fun hHeld => ?_)
  · exact ⟨cell_row (H10.out.blk _ (app3 (app1 (set_at2 HXB.out HNE.out)))) 0, cell_row (H10.out.blk _ (app3 (app1 (set_at2 HTB.out HNE2.out)))) 0, cell_row (H10.out.blk _ (app3 (at_end _ _))) 0, cell_row (H10.out.blk _ (app3 (at_end _ _))) 1, cell_row (H10.out.blk _ (app3 (at_end _ _))) 2, cell_row (H10.out.blk _ (app3 (at_end _ _))) 3⟩
  clear hKq Kq
  (try simp only [Act.put, List.setIfInBounds_toArray, List.set_cons_zero, List.set_cons_succ])
  refine wpAnyH_ready (rs := [14]) (by kernel_rfl) (by simp) ?_
  refine AllReadyH.cons (o := ({ dst := some 50, op := Op.buildSlice 118 3 #[(0, Operand.tmp 40), (1, Operand.tmp 45), (2, Operand.tmp 49)], type := 118, pos := "pairs.go:86", after := #[{ on := 4, ground := Ground.data }, { on := 9, ground := Ground.data }, { on := 13, ground := Ground.data }], guard := none } : Oper)) rfl (fun Kq hKq => ?_) AllReadyH.nil
  (go_simp; have h11 := H10.out.push (.cells #[takeF V1, askF (w8.heap.size + 2) (w8.heap.size + 3) w8.heap.size (w8.heap.size + 1), takeF V2] 121); have H11 := Lib.hid h11; clear h11)
  refine hKq.out _ _ ?_ (fun hHeld => ?_)
  · exact ⟨cell_row (H11.out.blk _ (app4 (app1 (set_at2 HXB.out HNE.out)))) 0, cell_row (H11.out.blk _ (app4 (app1 (set_at2 HTB.out HNE2.out)))) 0, cell_row (H11.out.blk _ (app4 (at_end _ _))) 0, cell_row (H11.out.blk _ (app4 (at_end _ _))) 1, cell_row (H11.out.blk _ (app4 (at_end _ _))) 2, cell_row (H11.out.blk _ (app4 (at_end _ _))) 3⟩
  clear hKq Kq
  (try simp only [Act.put, List.setIfInBounds_toArray, List.set_cons_zero, List.set_cons_succ])
  refine wpAnyH_take (i := 15) (oi := ({ dst := some 51, op := Op.nilCheck (Operand.tmp 36), type := 0, pos := "pairs.go:86", after := #[{ on := 0, ground := Ground.data }, { on := 0, ground := Ground.phase }, { on := 1, ground := Ground.phase }, { on := 2, ground := Ground.phase }, { on := 3, ground := Ground.phase }, { on := 4, ground := Ground.phase }, { on := 5, ground := Ground.phase }, { on := 6, ground := Ground.phase }, { on := 7, ground := Ground.phase }, { on := 8, ground := Ground.phase }, { on := 9, ground := Ground.phase }, { on := 10, ground := Ground.phase }, { on := 11, ground := Ground.phase }, { on := 12, ground := Ground.phase }, { on := 13, ground := Ground.phase }, { on := 14, ground := Ground.phase }], guard := none } : Oper)) (v := ?vrcm12) rfl (by kernel_rfl) (by kernel_rfl) (by kernel_rfl) (fun _ _ _ h => h) (Or.inl ⟨by rfl, fun w hSw => ?hyrcm12⟩) (by assumption) ?rrcm12
  case hyrcm12 => (try dsimp only at hSw); go_simp; (try with_reducible rfl)
  (try simp only [Act.put, List.setIfInBounds_toArray, List.set_cons_zero, List.set_cons_succ])
  refine wpAnyH_take (i := 16) (oi := ({ dst := some 52, op := Op.fieldAddr 120 (Operand.tmp 51) 2, type := 0, pos := "pairs.go:86", after := #[{ on := 15, ground := Ground.data }, { on := 0, ground := Ground.phase }, { on := 1, ground := Ground.phase }, { on := 2, ground := Ground.phase }, { on := 3, ground := Ground.phase }, { on := 4, ground := Ground.phase }, { on := 5, ground := Ground.phase }, { on := 6, ground := Ground.phase }, { on := 7, ground := Ground.phase }, { on := 8, ground := Ground.phase }, { on := 9, ground := Ground.phase }, { on := 10, ground := Ground.phase }, { on := 11, ground := Ground.phase }, { on := 12, ground := Ground.phase }, { on := 13, ground := Ground.phase }, { on := 14, ground := Ground.phase }], guard := none } : Oper)) (v := ?vrcm13) rfl (by kernel_rfl) (by kernel_rfl) (by kernel_rfl) (fun _ _ _ h => h) (Or.inl ⟨by rfl, fun w hSw => ?hyrcm13⟩) (by assumption) ?rrcm13
  case hyrcm13 => (try dsimp only at hSw); go_simp; (try with_reducible rfl)
  (try simp only [Act.put, List.setIfInBounds_toArray, List.set_cons_zero, List.set_cons_succ])
  refine wpAnyH_ready (rs := [17]) (by kernel_rfl) (by simp) ?_
  refine AllReadyH.cons (o := ({ dst := none, op := Op.store 118 (Operand.tmp 52) (Operand.tmp 50), type := 0, pos := "pairs.go:86", after := #[{ on := 16, ground := Ground.data }, { on := 14, ground := Ground.data }, { on := 13, ground := Ground.chain }, { on := 0, ground := Ground.phase }, { on := 1, ground := Ground.phase }, { on := 2, ground := Ground.phase }, { on := 3, ground := Ground.phase }, { on := 4, ground := Ground.phase }, { on := 5, ground := Ground.phase }, { on := 6, ground := Ground.phase }, { on := 7, ground := Ground.phase }, { on := 8, ground := Ground.phase }, { on := 9, ground := Ground.phase }, { on := 10, ground := Ground.phase }, { on := 11, ground := Ground.phase }, { on := 12, ground := Ground.phase }, { on := 13, ground := Ground.phase }, { on := 14, ground := Ground.phase }], guard := none } : Oper)) rfl (fun Kq hKq => ?_) AllReadyH.nil
  (have y1 : (w10.alloc (.cells #[takeF V1, askF (w8.heap.size + 2) (w8.heap.size + 3) w8.heap.size (w8.heap.size + 1), takeF V2] 121)).cell? ⟨B, 6, none⟩ = some left := cell_row (H11.out.blk _ (app4 (app1 (List.getElem?_set_self HKL.out)))) 6; have f1 : (w10.alloc (.cells #[takeF V1, askF (w8.heap.size + 2) (w8.heap.size + 3) w8.heap.size (w8.heap.size + 1), takeF V2] 121)).frozen? ⟨B, 6, none⟩ = false := froz_row (H11.out.blk _ (app4 (app1 (List.getElem?_set_self HKL.out)))) 6; go_simp; have h12 := H11.out.put _ (app4 (app1 (List.getElem?_set_self HKL.out))) 6 (.slice (some ⟨w10.heap.size, 0, none⟩) 3 3) rfl; have H12 := Lib.hid h12; clear y1 f1 h12; generalize (w10.alloc (.cells #[takeF V1, askF (w8.heap.size + 2) (w8.heap.size + 3) w8.heap.size (w8.heap.size + 1), takeF V2] 121)).setCell ⟨B, 6, none⟩ (.slice (some ⟨w10.heap.size, 0, none⟩) 3 3) = w12 at *)
  refine hKq.out _ _ ?_ (fun hHeld => ?_)
  · exact ⟨cell_row (H12.out.blk _ (set_at2 (app4 (app1 (set_at2 HXB.out HNE.out))) HNE.out)) 0, cell_row (H12.out.blk _ (set_at2 (app4 (app1 (set_at2 HTB.out HNE2.out))) HNE2.out)) 0, cell_row (H12.out.blk _ (set_at2 (app4 (at_end _ _)) (by have := HKL.out; rw [List.length_set]; omega))) 0, cell_row (H12.out.blk _ (set_at2 (app4 (at_end _ _)) (by have := HKL.out; rw [List.length_set]; omega))) 1, cell_row (H12.out.blk _ (set_at2 (app4 (at_end _ _)) (by have := HKL.out; rw [List.length_set]; omega))) 2, cell_row (H12.out.blk _ (set_at2 (app4 (at_end _ _)) (by have := HKL.out; rw [List.length_set]; omega))) 3⟩
  clear hKq Kq
  (try simp only [Act.put, List.setIfInBounds_toArray, List.set_cons_zero, List.set_cons_succ])
  refine wpAnyH_done (by kernel_rfl) ?_ _
  clear hHeld
  go_wp2_with fail
  go_ret
  have h12 := H12.out
  simp only [List.append_assoc, List.cons_append, List.nil_append, askL] at h12
  have h13 := h12.keep (by rw [List.length_set]; exact HKL.out)
  refine ⟨rfl, X1, U1, U2, OR, V1, w8.heap.size, w8.heap.size + 1, w8.heap.size + 2, w8.heap.size + 3, V2, w10.heap.size, ?_⟩
  unfold twoL
  rw [← HBB.out, ← HKA.out, ← HKB.out, ← HM1.out, ← HM2.out]
  exact h13
end
end Go.Proofs.Ytdfokceecnmocaa.S16
