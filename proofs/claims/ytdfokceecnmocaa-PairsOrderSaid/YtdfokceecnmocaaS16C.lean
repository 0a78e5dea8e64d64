/- A step of what is left to do; an ask's step. -/
import Derived.Test.YtdfokceecnmocaaS16B
set_option linter.unusedVariables false
set_option linter.unusedSimpArgs false
namespace Go.Proofs.Ytdfokceecnmocaa.S16
open Go.Proofs.Ytdfokceecnmocaa Go.Proofs.Ytdfokceecnmocaa.S11 Go.Proofs.Ytdfokceecnmocaa.S12 Go.Proofs.Ytdfokceecnmocaa.S13 Go.Proofs.Ytdfokceecnmocaa.S14 Go.Proofs.Ytdfokceecnmocaa.S15
open Go.RowKit

/-- Where a list goes on behind its first one. -/
def restA (LB i c : Nat) : Option Addr := if c = 0 then some ⟨LB, i, none⟩ else some ⟨LB, i + 1, none⟩
set_option maxRecDepth 100000 in
set_option maxHeartbeats 4000000 in
theorem todo_take {w : World} {B ix LB i n c WB : Nat} {V : Nat} {Q : Bool → World → Prop} (hn : n < 1000) (hnc : n ≤ c) (hc2 : c < 9223372036854775808)
    (c0 : w.cell? ⟨B, ix, none⟩ = some (.slice (some ⟨LB, i, none⟩) (n + 1) (c + 1))) (f0 : w.frozen? ⟨B, ix, none⟩ = false)
    (e1 : (w.setCell ⟨B, ix, none⟩ (.slice (restA LB i c) n c)).cell? ⟨LB, i, none⟩ = some (takeF V))
    (hc : Calls Try.prog 60 #[Pw WB, Pw V] (w.setCell ⟨B, ix, none⟩ (.slice (restA LB i c) n c)) fun e w' => ∃ b, e = .returned (.bool b) ∧ Q b w')
    (hf : ∀ w', Q false w' → w'.frozen? ⟨B, ix, none⟩ = false ∧ ∃ v, w'.cell? ⟨B, ix, none⟩ = some v) :
    Calls Try.prog 33 #[.pointer (some ⟨B, ix, none⟩), Pw WB] w fun e w' => e = .returned (.tuple #[]) ∧ (Q true w' ∨ ∃ w2, Q false w2 ∧ w' = w2.setCell ⟨B, ix, none⟩ (.slice (some ⟨LB, i, none⟩) (n + 1) (c + 1))) := by
  obtain ⟨P, hP⟩ : ∃ P, P = restA LB i c := ⟨_, rfl⟩
  rw [← hP] at e1 hc
  have hP2 : (if c = 0 then some (⟨LB, i, none⟩ : Addr) else some ⟨LB, i + 1, none⟩) = P := hP.symm
  have HC := Lib.hid hc; have HF := Lib.hid hf; have HP := Lib.hid hP2
  clear hc hf hP hP2
  go_enter Try.func33, Try.ntmps33
  go_upto_region 2 with (fail)
  rw [HP.out]
  clear HP c0 f0
  generalize w.setCell ⟨B, ix, none⟩ (.slice P n c) = w1 at *
  go_upto_if 17 with (go_at_call 60; refine HC.out.mono ?_; rintro e w2 ⟨b, rfl, hq⟩; have HQ := Lib.hid hq; clear hq)
  cases b
  · obtain ⟨f2, v2, c2⟩ := HF.out _ HQ.out
    go_wp2_with fail
    go_end0
    exact ⟨rfl, .inr ⟨_, HQ.out, rfl⟩⟩
  · go_wp2_with fail
    go_end0
    exact ⟨rfl, .inl HQ.out⟩
set_option maxRecDepth 100000 in
set_option maxHeartbeats 4000000 in
theorem todo_leave {w : World} {B ix LB i n c WB : Nat} {V : Nat} {Q : Bool → World → Prop} (hn : n < 1000) (hnc : n ≤ c) (hc2 : c < 9223372036854775808)
    (c0 : w.cell? ⟨B, ix, none⟩ = some (.slice (some ⟨LB, i, none⟩) (n + 1) (c + 1))) (f0 : w.frozen? ⟨B, ix, none⟩ = false)
    (e1 : (w.setCell ⟨B, ix, none⟩ (.slice (restA LB i c) n c)).cell? ⟨LB, i, none⟩ = some (leaveF V))
    (hc : Calls Try.prog 52 #[Pw WB, Pw V] (w.setCell ⟨B, ix, none⟩ (.slice (restA LB i c) n c)) fun e w' => ∃ b, e = .returned (.bool b) ∧ Q b w')
    (hf : ∀ w', Q false w' → w'.frozen? ⟨B, ix, none⟩ = false ∧ ∃ v, w'.cell? ⟨B, ix, none⟩ = some v) :
    Calls Try.prog 33 #[.pointer (some ⟨B, ix, none⟩), Pw WB] w fun e w' => e = .returned (.tuple #[]) ∧ (Q true w' ∨ ∃ w2, Q false w2 ∧ w' = w2.setCell ⟨B, ix, none⟩ (.slice (some ⟨LB, i, none⟩) (n + 1) (c + 1))) := by
  obtain ⟨P, hP⟩ : ∃ P, P = restA LB i c := ⟨_, rfl⟩
  rw [← hP] at e1 hc
  have hP2 : (if c = 0 then some (⟨LB, i, none⟩ : Addr) else some ⟨LB, i + 1, none⟩) = P := hP.symm
  have HC := Lib.hid hc; have HF := Lib.hid hf; have HP := Lib.hid hP2
  clear hc hf hP hP2
  go_enter Try.func33, Try.ntmps33
  go_upto_region 2 with (fail)
  rw [HP.out]
  clear HP c0 f0
  generalize w.setCell ⟨B, ix, none⟩ (.slice P n c) = w1 at *
  go_upto_if 17 with (go_at_call 52; refine HC.out.mono ?_; rintro e w2 ⟨b, rfl, hq⟩; have HQ := Lib.hid hq; clear hq)
  cases b
  · obtain ⟨f2, v2, c2⟩ := HF.out _ HQ.out
    go_wp2_with fail
    go_end0
    exact ⟨rfl, .inr ⟨_, HQ.out, rfl⟩⟩
  · go_wp2_with fail
    go_end0
    exact ⟨rfl, .inl HQ.out⟩
set_option maxRecDepth 100000 in
set_option maxHeartbeats 4000000 in
theorem todo_look {w : World} {B ix LB i n c WB : Nat} {XB TB : Nat} {Q : Bool → World → Prop} (hn : n < 1000) (hnc : n ≤ c) (hc2 : c < 9223372036854775808)
    (c0 : w.cell? ⟨B, ix, none⟩ = some (.slice (some ⟨LB, i, none⟩) (n + 1) (c + 1))) (f0 : w.frozen? ⟨B, ix, none⟩ = false)
    (e1 : (w.setCell ⟨B, ix, none⟩ (.slice (restA LB i c) n c)).cell? ⟨LB, i, none⟩ = some (lookF XB TB))
    (hc : Calls Try.prog 47 #[Pw WB, Pw XB, Pw TB] (w.setCell ⟨B, ix, none⟩ (.slice (restA LB i c) n c)) fun e w' => ∃ b, e = .returned (.bool b) ∧ Q b w')
    (hf : ∀ w', Q false w' → w'.frozen? ⟨B, ix, none⟩ = false ∧ ∃ v, w'.cell? ⟨B, ix, none⟩ = some v) :
    Calls Try.prog 33 #[.pointer (some ⟨B, ix, none⟩), Pw WB] w fun e w' => e = .returned (.tuple #[]) ∧ (Q true w' ∨ ∃ w2, Q false w2 ∧ w' = w2.setCell ⟨B, ix, none⟩ (.slice (some ⟨LB, i, none⟩) (n + 1) (c + 1))) := by
  obtain ⟨P, hP⟩ : ∃ P, P = restA LB i c := ⟨_, rfl⟩
  rw [← hP] at e1 hc
  have hP2 : (if c = 0 then some (⟨LB, i, none⟩ : Addr) else some ⟨LB, i + 1, none⟩) = P := hP.symm
  have HC := Lib.hid hc; have HF := Lib.hid hf; have HP := Lib.hid hP2
  clear hc hf hP hP2
  go_enter Try.func33, Try.ntmps33
  go_upto_region 2 with (fail)
  rw [HP.out]
  clear HP c0 f0
  generalize w.setCell ⟨B, ix, none⟩ (.slice P n c) = w1 at *
  go_upto_if 17 with (go_at_call 47; refine HC.out.mono ?_; rintro e w2 ⟨b, rfl, hq⟩; have HQ := Lib.hid hq; clear hq)
  cases b
  · obtain ⟨f2, v2, c2⟩ := HF.out _ HQ.out
    go_wp2_with fail
    go_end0
    exact ⟨rfl, .inr ⟨_, HQ.out, rfl⟩⟩
  · go_wp2_with fail
    go_end0
    exact ⟨rfl, .inl HQ.out⟩
set_option maxRecDepth 100000 in
set_option maxHeartbeats 4000000 in
theorem todo_ask {w : World} {B ix LB i n c WB : Nat} {KB OB XB TB : Nat} {Q : Bool → World → Prop} (hn : n < 1000) (hnc : n ≤ c) (hc2 : c < 9223372036854775808)
    (c0 : w.cell? ⟨B, ix, none⟩ = some (.slice (some ⟨LB, i, none⟩) (n + 1) (c + 1))) (f0 : w.frozen? ⟨B, ix, none⟩ = false)
    (e1 : (w.setCell ⟨B, ix, none⟩ (.slice (restA LB i c) n c)).cell? ⟨LB, i, none⟩ = some (askF KB OB XB TB))
    (hc : Calls Try.prog 62 #[Pw WB, Pw KB, Pw OB, Pw XB, Pw TB] (w.setCell ⟨B, ix, none⟩ (.slice (restA LB i c) n c)) fun e w' => ∃ b, e = .returned (.bool b) ∧ Q b w')
    (hf : ∀ w', Q false w' → w'.frozen? ⟨B, ix, none⟩ = false ∧ ∃ v, w'.cell? ⟨B, ix, none⟩ = some v) :
    Calls Try.prog 33 #[.pointer (some ⟨B, ix, none⟩), Pw WB] w fun e w' => e = .returned (.tuple #[]) ∧ (Q true w' ∨ ∃ w2, Q false w2 ∧ w' = w2.setCell ⟨B, ix, none⟩ (.slice (some ⟨LB, i, none⟩) (n + 1) (c + 1))) := by
  obtain ⟨P, hP⟩ : ∃ P, P = restA LB i c := ⟨_, rfl⟩
  rw [← hP] at e1 hc
  have hP2 : (if c = 0 then some (⟨LB, i, none⟩ : Addr) else some ⟨LB, i + 1, none⟩) = P := hP.symm
  have HC := Lib.hid hc; have HF := Lib.hid hf; have HP := Lib.hid hP2
  clear hc hf hP hP2
  go_enter Try.func33, Try.ntmps33
  go_upto_region 2 with (fail)
  rw [HP.out]
  clear HP c0 f0
  generalize w.setCell ⟨B, ix, none⟩ (.slice P n c) = w1 at *
  go_upto_if 17 with (go_at_call 62; refine HC.out.mono ?_; rintro e w2 ⟨b, rfl, hq⟩; have HQ := Lib.hid hq; clear hq)
  cases b
  · obtain ⟨f2, v2, c2⟩ := HF.out _ HQ.out
    go_wp2_with fail
    go_end0
    exact ⟨rfl, .inr ⟨_, HQ.out, rfl⟩⟩
  · go_wp2_with fail
    go_end0
    exact ⟨rfl, .inl HQ.out⟩
/-- A Pair's own block. -/
def pairC (a b : Nat) (b1 i1 b2 i2 : Int) (left : Value) : Array Value := #[.int .u32 (a : Int), .int .u32 (b : Int), .int .i64 b1, .int .i64 i1, .int .i64 b2, .int .i64 i2, left]
section
variable {w0 w w' : World} {base WB : Nat} {M : Sd} {r : List Part} {j u U : Nat} {l l' : Rows} {X : Wm}
set_option maxRecDepth 100000 in
set_option maxHeartbeats 4000000 in
theorem ask_same (h : Wq w0 w base WB M r j l X) (hn : M.n ≤ 1000000000) {x tw : Nat} (hx : x = S2.look M.L 0) (hxe : x = tw) {k0 kk kx ko B KB OB XB TB a b : Nat} {b1 i1 b2 i2 p1 q1 p2 q2 : Int} {left : Value}
    (hb : l[k0]? = some (B, .cells (pairC a b p1 q1 p2 q2 left) 120 (0, 0))) (hkb : l[kk]? = some (KB, .cells #[.int .u64 (tw : Int)] 25 (0, 0))) (hxb : l[kx]? = some (XB, .cells #[Pw B] 56 (0, 0)))
    (hob : l[ko]? = some (OB, .cells #[.int .i64 b1, .int .i64 i1, .int .i64 b2, .int .i64 i2] 116 (0, 0))) (hpl : b1 = b2 ∧ i1 = i2) :
    Calls Try.prog 62 #[Pw WB, Pw KB, Pw OB, Pw XB, Pw TB] w fun e w' => e = .returned (.bool true) ∧ ∃ X', Wq w0 w' base WB (M.acc 1 0 x) r j (l.set k0 (B, .cells (pairC a b p1 q1 p2 q2 (.slice none 0 0)) 120 (0, 0))) X' := by
  obtain ⟨cb, hcb⟩ : ∃ cb, X.cB = cb := ⟨_, rfl⟩
  have HCB := Lib.hid hcb; have HX := Lib.hid h; have HKB := Lib.hid hkb
  have hld : ∀ W X', Wq w0 W base WB M r j l X' → X'.cB = cb → Calls Try.prog 48 #[Pw cb, .int .u32 0] W fun e w' => e = .returned (.int .u64 (x : Int)) ∧ ∃ X5, Wq w0 w' base WB (M.acc 1 0 x) r j l X5 ∧ X5.cB = cb := fun W X' hW hc => by
    subst hc
    rw [hx]
    exact hW.load (a := 0) (by omega) hn
  have HLD := Lib.hid hld
  have hne : ((x : Int) != (tw : Int)) = false := by rw [hxe]; simp
  have hne2 : (!decide ((x : Int) = (tw : Int))) = false := by rw [hxe]; simp
  obtain ⟨e1, e2⟩ := hpl
  subst e1 e2
  have HB := Lib.hid hb; have HXB := Lib.hid hxb; have HOB := Lib.hid hob
  clear h hn hx hxe hcb hld hb hkb hxb hob
  go_enter Try.func62, Try.ntmps62
  go_upto_region 1 with (fail)
  refine wp_region_held_drew (S := fun w' => w'.cell? ⟨WB, 0, none⟩ = some (Pw cb) ∧ w'.cell? ⟨KB, 0, none⟩ = some (.int .u64 (tw : Int))) (by kernel_rfl) ?_ (fun hHeld => ?_)
  · exact ⟨by rw [← HCB.out]; exact (HX.out.new (Below.refl _ _).drew).pg.c.1, cell_row ((HX.out.new (Below.refl _ _).drew).blk _ HKB.out) 0⟩
  refine wpAnyH_take (i := 0) (oi := ({ dst := some 7, op := Op.move (Operand.tmp 0), type := 23, pos := "pairs.go:94", after := #[], guard := none } : Oper)) (v := ?vsm1) rfl (by kernel_rfl) (by kernel_rfl) (by kernel_rfl) (fun _ _ _ h => h) (Or.inl ⟨by rfl, fun w hSw => ?hysm1⟩) (by assumption) ?rsm1
  case hysm1 => (try dsimp only at hSw); go_simp; (try with_reducible rfl)
  (try simp only [Act.put, List.setIfInBounds_toArray, List.set_cons_zero, List.set_cons_succ])
  refine wpAnyH_take (i := 1) (oi := ({ dst := some 8, op := Op.nilCheck (Operand.tmp 7), type := 0, pos := "pairs.go:94", after := #[{ on := 0, ground := Ground.data }], guard := none } : Oper)) (v := ?vsm2) rfl (by kernel_rfl) (by kernel_rfl) (by kernel_rfl) (fun _ _ _ h => h) (Or.inl ⟨by rfl, fun w hSw => ?hysm2⟩) (by assumption) ?rsm2
  case hysm2 => (try dsimp only at hSw); go_simp; (try with_reducible rfl)
  (try simp only [Act.put, List.setIfInBounds_toArray, List.set_cons_zero, List.set_cons_succ])
  refine wpAnyH_take (i := 2) (oi := ({ dst := some 9, op := Op.fieldAddr 34 (Operand.tmp 8) 0, type := 0, pos := "pairs.go:94", after := #[{ on := 1, ground := Ground.data }], guard := none } : Oper)) (v := ?vsm3) rfl (by kernel_rfl) (by kernel_rfl) (by kernel_rfl) (fun _ _ _ h => h) (Or.inl ⟨by rfl, fun w hSw => ?hysm3⟩) (by assumption) ?rsm3
  case hysm3 => (try dsimp only at hSw); go_simp; (try with_reducible rfl)
  (try simp only [Act.put, List.setIfInBounds_toArray, List.set_cons_zero, List.set_cons_succ])
  refine wpAnyH_take (i := 3) (oi := ({ dst := some 10, op := Op.load 26 (Operand.tmp 9), type := 26, pos := "pairs.go:94", after := #[{ on := 2, ground := Ground.data }], guard := none } : Oper)) (v := ?vsm4) rfl (by kernel_rfl) (by kernel_rfl) (by kernel_rfl) (fun _ _ _ h => h) (Or.inl ⟨by rfl, fun w hSw => ?hysm4⟩) (by assumption) ?rsm4
  case hysm4 => (try dsimp only at hSw); go_simp; (try with_reducible rfl)
  (try simp only [Act.put, List.setIfInBounds_toArray, List.set_cons_zero, List.set_cons_succ])
  refine wpAnyH_take (i := 5) (oi := ({ dst := some 12, op := Op.load 25 (Operand.tmp 1), type := 25, pos := "pairs.go:94", after := #[], guard := none } : Oper)) (v := ?vsm5) rfl (by kernel_rfl) (by kernel_rfl) (by kernel_rfl) (fun _ _ _ h => h) (Or.inl ⟨by rfl, fun w hSw => ?hysm5⟩) (by assumption) ?rsm5
  case hysm5 => (try dsimp only at hSw); go_simp; (try with_reducible rfl)
  (try simp only [Act.put, List.setIfInBounds_toArray, List.set_cons_zero, List.set_cons_succ])
  refine wpAnyH_ready (rs := [4]) (by kernel_rfl) (by simp) ?_
  refine AllReadyH.cons (o := ({ dst := some 11, op := Op.call { callee := Callee.value (Operand.func 48), args := #[Operand.tmp 10, Operand.const (Value.int IntKind.u32 0)], argTypes := #[26, 37] }, type := 25, pos := "pairs.go:94", after := #[{ on := 3, ground := Ground.data }], guard := none } : Oper)) rfl (fun Kq hKq => ?_) AllReadyH.nil
  go_simp
  (refine (HLD.out _ X (HX.out.new (Below.refl _ _).drew) HCB.out).mono ?_; rintro e w1 ⟨rfl, X1, h1, hc1⟩; have H1 := Lib.hid h1; have HC1 := Lib.hid hc1; clear h1 hc1)
  refine hKq.out _ _ ?_ (fun hHeld => ?_)
  · exact ⟨by rw [← HC1.out]; exact H1.out.pg.c.1, cell_row (H1.out.blk _ HKB.out) 0⟩
  clear hKq Kq
  (try simp only [Act.put, List.setIfInBounds_toArray, List.set_cons_zero, List.set_cons_succ])
  refine wpAnyH_take (i := 6) (oi := ({ dst := some 13, op := Op.binOp BinOp.neq 25 (Operand.tmp 11) (Operand.tmp 12) 25, type := 4, pos := "pairs.go:94", after := #[{ on := 4, ground := Ground.data }, { on := 5, ground := Ground.data }], guard := none } : Oper)) (v := ?vsm6) rfl (by kernel_rfl) (by kernel_rfl) (by kernel_rfl) (fun _ _ _ h => h) (Or.inl ⟨by rfl, fun w hSw => ?hysm6⟩) (by assumption) ?rsm6
  case hysm6 => (try dsimp only at hSw); go_simp; (try with_reducible rfl)
  (try simp only [Act.put, List.setIfInBounds_toArray, List.set_cons_zero, List.set_cons_succ])
  refine wpAnyH_done (by kernel_rfl) ?_ _
  clear hHeld HLD HX
  have o0 : w1.cell? ⟨OB, 0, none⟩ = some (.int .i64 b1) := cell_row (H1.out.blk _ HOB.out) 0
  have o1 : w1.cell? ⟨OB, 1, none⟩ = some (.int .i64 i1) := cell_row (H1.out.blk _ HOB.out) 1
  have o2 : w1.cell? ⟨OB, 2, none⟩ = some (.int .i64 b1) := cell_row (H1.out.blk _ HOB.out) 2
  have o3 : w1.cell? ⟨OB, 3, none⟩ = some (.int .i64 i1) := cell_row (H1.out.blk _ HOB.out) 3
  have x0 : w1.cell? ⟨XB, 0, none⟩ = some (Pw B) := cell_row (H1.out.blk _ HXB.out) 0
  have y0 : w1.cell? ⟨B, 6, none⟩ = some left := cell_row (H1.out.blk _ HB.out) 6
  have f0 : w1.frozen? ⟨B, 6, none⟩ = false := froz_row (H1.out.blk _ HB.out) 6
  go_wp2_with fail
  go_ret
  exact ⟨rfl, X1, H1.out.put _ HB.out 6 _ rfl⟩
set_option maxRecDepth 100000 in
set_option maxHeartbeats 4000000 in
theorem ask_two (h : Wq w0 w base WB M r j l X) (hn : M.n ≤ 1000000000) {x tw : Nat} (hx : x = S2.look M.L 0) (hxe : x = tw) {k0 kk kx ko B KB OB XB TB a b : Nat} {b1 i1 b2 i2 p1 q1 p2 q2 : Int} {left : Value}
    (hb : l[k0]? = some (B, .cells (pairC a b p1 q1 p2 q2 left) 120 (0, 0))) (hkb : l[kk]? = some (KB, .cells #[.int .u64 (tw : Int)] 25 (0, 0))) (hxb : l[kx]? = some (XB, .cells #[Pw B] 56 (0, 0)))
    (hob : l[ko]? = some (OB, .cells #[.int .i64 b1, .int .i64 i1, .int .i64 b2, .int .i64 i2] 116 (0, 0))) (hpl : ¬ (b1 = b2 ∧ i1 = i2)) :
    Calls Try.prog 62 #[Pw WB, Pw KB, Pw OB, Pw XB, Pw TB] w fun e w' => e = .returned (.bool true) ∧ ∃ X', Wq w0 w' base WB (M.acc 1 0 x) r j l X' := by
  obtain ⟨cb, hcb⟩ : ∃ cb, X.cB = cb := ⟨_, rfl⟩
  have HCB := Lib.hid hcb; have HX := Lib.hid h; have HKB := Lib.hid hkb
  have hld : ∀ W X', Wq w0 W base WB M r j l X' → X'.cB = cb → Calls Try.prog 48 #[Pw cb, .int .u32 0] W fun e w' => e = .returned (.int .u64 (x : Int)) ∧ ∃ X5, Wq w0 w' base WB (M.acc 1 0 x) r j l X5 ∧ X5.cB = cb := fun W X' hW hc => by
    subst hc
    rw [hx]
    exact hW.load (a := 0) (by omega) hn
  have HLD := Lib.hid hld
  have hne : ((x : Int) != (tw : Int)) = false := by rw [hxe]; simp
  have hne2 : (!decide ((x : Int) = (tw : Int))) = false := by rw [hxe]; simp
  have HPL := Lib.hid hpl
  have HB := Lib.hid hb; have HXB := Lib.hid hxb; have HOB := Lib.hid hob
  clear h hn hx hxe hcb hld hb hkb hxb hob hpl
  go_enter Try.func62, Try.ntmps62
  go_upto_region 1 with (fail)
  refine wp_region_held_drew (S := fun w' => w'.cell? ⟨WB, 0, none⟩ = some (Pw cb) ∧ w'.cell? ⟨KB, 0, none⟩ = some (.int .u64 (tw : Int))) (by kernel_rfl) ?_ (fun hHeld => ?_)
  · exact ⟨by rw [← HCB.out]; exact (HX.out.new (Below.refl _ _).drew).pg.c.1, cell_row ((HX.out.new (Below.refl _ _).drew).blk _ HKB.out) 0⟩
  refine wpAnyH_take (i := 0) (oi := ({ dst := some 7, op := Op.move (Operand.tmp 0), type := 23, pos := "pairs.go:94", after := #[], guard := none } : Oper)) (v := ?vtm1) rfl (by kernel_rfl) (by kernel_rfl) (by kernel_rfl) (fun _ _ _ h => h) (Or.inl ⟨by rfl, fun w hSw => ?hytm1⟩) (by assumption) ?rtm1
  case hytm1 => (try dsimp only at hSw); go_simp; (try with_reducible rfl)
  (try simp only [Act.put, List.setIfInBounds_toArray, List.set_cons_zero, List.set_cons_succ])
  refine wpAnyH_take (i := 1) (oi := ({ dst := some 8, op := Op.nilCheck (Operand.tmp 7), type := 0, pos := "pairs.go:94", after := #[{ on := 0, ground := Ground.data }], guard := none } : Oper)) (v := ?vtm2) rfl (by kernel_rfl) (by kernel_rfl) (by kernel_rfl) (fun _ _ _ h => h) (Or.inl ⟨by rfl, fun w hSw => ?hytm2⟩) (by assumption) ?rtm2
  case hytm2 => (try dsimp only at hSw); go_simp; (try with_reducible rfl)
  (try simp only [Act.put, List.setIfInBounds_toArray, List.set_cons_zero, List.set_cons_succ])
  refine wpAnyH_take (i := 2) (oi := ({ dst := some 9, op := Op.fieldAddr 34 (Operand.tmp 8) 0, type := 0, pos := "pairs.go:94", after := #[{ on := 1, ground := Ground.data }], guard := none } : Oper)) (v := ?vtm3) rfl (by kernel_rfl) (by kernel_rfl) (by kernel_rfl) (fun _ _ _ h => h) (Or.inl ⟨by rfl, fun w hSw => ?hytm3⟩) (by assumption) ?rtm3
  case hytm3 => (try dsimp only at hSw); go_simp; (try with_reducible rfl)
  (try simp only [Act.put, List.setIfInBounds_toArray, List.set_cons_zero, List.set_cons_succ])
  refine wpAnyH_take (i := 3) (oi := ({ dst := some 10, op := Op.load 26 (Operand.tmp 9), type := 26, pos := "pairs.go:94", after := #[{ on := 2, ground := Ground.data }], guard := none } : Oper)) (v := ?vtm4) rfl (by kernel_rfl) (by kernel_rfl) (by kernel_rfl) (fun _ _ _ h => h) (Or.inl ⟨by rfl, fun w hSw => ?hytm4⟩) (by assumption) ?rtm4
  case hytm4 => (try dsimp only at hSw); go_simp; (try with_reducible rfl)
  (try simp only [Act.put, List.setIfInBounds_toArray, List.set_cons_zero, List.set_cons_succ])
  refine wpAnyH_take (i := 5) (oi := ({ dst := some 12, op := Op.load 25 (Operand.tmp 1), type := 25, pos := "pairs.go:94", after := #[], guard := none } : Oper)) (v := ?vtm5) rfl (by kernel_rfl) (by kernel_rfl) (by kernel_rfl) (fun _ _ _ h => h) (Or.inl ⟨by rfl, fun w hSw => ?hytm5⟩) (by assumption) ?rtm5
  case hytm5 => (try dsimp only at hSw); go_simp; (try with_reducible rfl)
  (try simp only [Act.put, List.setIfInBounds_toArray, List.set_cons_zero, List.set_cons_succ])
  refine wpAnyH_ready (rs := [4]) (by kernel_rfl) (by simp) ?_
  refine AllReadyH.cons (o := ({ dst := some 11, op := Op.call { callee := Callee.value (Operand.func 48), args := #[Operand.tmp 10, Operand.const (Value.int IntKind.u32 0)], argTypes := #[26, 37] }, type := 25, pos := "pairs.go:94", after := #[{ on := 3, ground := Ground.data }], guard := none } : Oper)) rfl (fun Kq hKq => ?_) AllReadyH.nil
  go_simp
  (refine (HLD.out _ X (HX.out.new (Below.refl _ _).drew) HCB.out).mono ?_; rintro e w1 ⟨rfl, X1, h1, hc1⟩; have H1 := Lib.hid h1; have HC1 := Lib.hid hc1; clear h1 hc1)
  refine hKq.out _ _ ?_ (fun hHeld => ?_)
  · exact ⟨by rw [← HC1.out]; exact H1.out.pg.c.1, cell_row (H1.out.blk _ HKB.out) 0⟩
  clear hKq Kq
  (try simp only [Act.put, List.setIfInBounds_toArray, List.set_cons_zero, List.set_cons_succ])
  refine wpAnyH_take (i := 6) (oi := ({ dst := some 13, op := Op.binOp BinOp.neq 25 (Operand.tmp 11) (Operand.tmp 12) 25, type := 4, pos := "pairs.go:94", after := #[{ on := 4, ground := Ground.data }, { on := 5, ground := Ground.data }], guard := none } : Oper)) (v := ?vtm6) rfl (by kernel_rfl) (by kernel_rfl) (by kernel_rfl) (fun _ _ _ h => h) (Or.inl ⟨by rfl, fun w hSw => ?hytm6⟩) (by assumption) ?rtm6
  case hytm6 => (try dsimp only at hSw); go_simp; (try with_reducible rfl)
  (try simp only [Act.put, List.setIfInBounds_toArray, List.set_cons_zero, List.set_cons_succ])
  refine wpAnyH_done (by kernel_rfl) ?_ _
  clear hHeld HLD HX
  have o0 : w1.cell? ⟨OB, 0, none⟩ = some (.int .i64 b1) := cell_row (H1.out.blk _ HOB.out) 0
  have o1 : w1.cell? ⟨OB, 1, none⟩ = some (.int .i64 i1) := cell_row (H1.out.blk _ HOB.out) 1
  have o2 : w1.cell? ⟨OB, 2, none⟩ = some (.int .i64 b2) := cell_row (H1.out.blk _ HOB.out) 2
  have o3 : w1.cell? ⟨OB, 3, none⟩ = some (.int .i64 i2) := cell_row (H1.out.blk _ HOB.out) 3
  go_upto_if 28 with (fail)
  all_goals first
    | exact (HPL.out ⟨by assumption, by assumption⟩).elim
    | (go_wp2_with fail
       go_ret
       exact ⟨rfl, X1, H1.out⟩)
set_option maxRecDepth 100000 in
set_option maxHeartbeats 4000000 in
theorem ask_else (h : Wq w0 w base WB M r j l X) (hn : M.n ≤ 1000000000) (hju : j ≠ u) (hu : u < r.length) {x tw : Nat} (hx : x = S2.look M.L 0) (hxe : x ≠ tw) {k0 kk kx ko kt B KB OB XB TB a b t la : Nat} {b1 i1 b2 i2 p1 q1 p2 q2 : Int} {left : Value}
    (hb : l[k0]? = some (B, .cells (pairC a b p1 q1 p2 q2 left) 120 (0, 0))) (hkb : l[kk]? = some (KB, .cells #[.int .u64 (tw : Int)] 25 (0, 0))) (hxb : l[kx]? = some (XB, .cells #[Pw B] 56 (0, 0))) (htb : l[kt]? = some (TB, .cells #[.int .i64 (t : Int)] 3 (0, 0)))
    (hob : l[ko]? = some (OB, .cells #[.int .i64 b1, .int .i64 i1, .int .i64 b2, .int .i64 i2] 116 (0, 0))) (hz : S10.lockZ b1 i1 = (la : Int)) (hne0 : k0 ≠ kx ∧ k0 ≠ kt ∧ k0 ≠ ko) :
    Calls Try.prog 62 #[Pw WB, Pw KB, Pw OB, Pw XB, Pw TB] w fun e w' => e = .returned (.bool true) ∧ ∃ X' V U XC TC LB, Wq w0 w' base WB (M.acc 1 0 x) (r.set u (freeP U (fr0 la))) j [(B, .cells (pairC a b p1 q1 p2 q2 (.slice (some ⟨LB, 0, none⟩) 2 2)) 120 (0, 0)), (V, .cells #[Pw U] 47 (0, 0)), (XC, .cells #[Pw B] 56 (0, 0)), (TC, .cells #[.int .i64 (t : Int)] 3 (0, 0)), (LB, .cells #[leaveF V, lookF XC TC] 121 (0, 0))] X' := by
  obtain ⟨cb, hcb⟩ : ∃ cb, X.cB = cb := ⟨_, rfl⟩
  have HCB := Lib.hid hcb; have HX := Lib.hid h; have HKB := Lib.hid hkb
  have hld : ∀ W X', Wq w0 W base WB M r j l X' → X'.cB = cb → Calls Try.prog 48 #[Pw cb, .int .u32 0] W fun e w' => e = .returned (.int .u64 (x : Int)) ∧ ∃ X5, Wq w0 w' base WB (M.acc 1 0 x) r j l X5 ∧ X5.cB = cb := fun W X' hW hc => by
    subst hc
    rw [hx]
    exact hW.load (a := 0) (by omega) hn
  have HLD := Lib.hid hld
  have hne : ((x : Int) != (tw : Int)) = true := by simp; omega
  have hne2 : (!decide ((x : Int) = (tw : Int))) = true := by simp; omega
  have HB := Lib.hid hb; have HXB := Lib.hid hxb; have HOB := Lib.hid hob; have HTB := Lib.hid htb; have HJU := Lib.hid hju; have HU := Lib.hid hu; have HZ := Lib.hid hz; have HNE := Lib.hid hne0; have HKL := Lib.hid (List.getElem?_eq_some_iff.1 hb).1
  clear hne0 h hn hx hxe hcb hld hb hkb hxb hob htb hju hu hz
  go_enter Try.func62, Try.ntmps62
  go_upto_region 1 with (fail)
  refine wp_region_held_drew (S := fun w' => w'.cell? ⟨WB, 0, none⟩ = some (Pw cb) ∧ w'.cell? ⟨KB, 0, none⟩ = some (.int .u64 (tw : Int))) (by kernel_rfl) ?_ (fun hHeld => ?_)
  · exact ⟨by rw [← HCB.out]; exact (HX.out.new (Below.refl _ _).drew).pg.c.1, cell_row ((HX.out.new (Below.refl _ _).drew).blk _ HKB.out) 0⟩
  refine wpAnyH_take (i := 0) (oi := ({ dst := some 7, op := Op.move (Operand.tmp 0), type := 23, pos := "pairs.go:94", after := #[], guard := none } : Oper)) (v := ?vem1) rfl (by kernel_rfl) (by kernel_rfl) (by kernel_rfl) (fun _ _ _ h => h) (Or.inl ⟨by rfl, fun w hSw => ?hyem1⟩) (by assumption) ?rem1
  case hyem1 => (try dsimp only at hSw); go_simp; (try with_reducible rfl)
  (try simp only [Act.put, List.setIfInBounds_toArray, List.set_cons_zero, List.set_cons_succ])
  refine wpAnyH_take (i := 1) (oi := ({ dst := some 8, op := Op.nilCheck (Operand.tmp 7), type := 0, pos := "pairs.go:94", after := #[{ on := 0, ground := Ground.data }], guard := none } : Oper)) (v := ?vem2) rfl (by kernel_rfl) (by kernel_rfl) (by kernel_rfl) (fun _ _ _ h => h) (Or.inl ⟨by rfl, fun w hSw => ?hyem2⟩) (by assumption) ?rem2
  case hyem2 => (try dsimp only at hSw); go_simp; (try with_reducible rfl)
  (try simp only [Act.put, List.setIfInBounds_toArray, List.set_cons_zero, List.set_cons_succ])
  refine wpAnyH_take (i := 2) (oi := ({ dst := some 9, op := Op.fieldAddr 34 (Operand.tmp 8) 0, type := 0, pos := "pairs.go:94", after := #[{ on := 1, ground := Ground.data }], guard := none } : Oper)) (v := ?vem3) rfl (by kernel_rfl) (by kernel_rfl) (by kernel_rfl) (fun _ _ _ h => h) (Or.inl ⟨by rfl, fun w hSw => ?hyem3⟩) (by assumption) ?rem3
  case hyem3 => (try dsimp only at hSw); go_simp; (try with_reducible rfl)
  (try simp only [Act.put, List.setIfInBounds_toArray, List.set_cons_zero, List.set_cons_succ])
  refine wpAnyH_take (i := 3) (oi := ({ dst := some 10, op := Op.load 26 (Operand.tmp 9), type := 26, pos := "pairs.go:94", after := #[{ on := 2, ground := Ground.data }], guard := none } : Oper)) (v := ?vem4) rfl (by kernel_rfl) (by kernel_rfl) (by kernel_rfl) (fun _ _ _ h => h) (Or.inl ⟨by rfl, fun w hSw => ?hyem4⟩) (by assumption) ?rem4
  case hyem4 => (try dsimp only at hSw); go_simp; (try with_reducible rfl)
  (try simp only [Act.put, List.setIfInBounds_toArray, List.set_cons_zero, List.set_cons_succ])
  refine wpAnyH_take (i := 5) (oi := ({ dst := some 12, op := Op.load 25 (Operand.tmp 1), type := 25, pos := "pairs.go:94", after := #[], guard := none } : Oper)) (v := ?vem5) rfl (by kernel_rfl) (by kernel_rfl) (by kernel_rfl) (fun _ _ _ h => h) (Or.inl ⟨by rfl, fun w hSw => ?hyem5⟩) (by assumption) ?rem5
  case hyem5 => (try dsimp only at hSw); go_simp; (try with_reducible rfl)
  (try simp only [Act.put, List.setIfInBounds_toArray, List.set_cons_zero, List.set_cons_succ])
  refine wpAnyH_ready (rs := [4]) (by kernel_rfl) (by simp) ?_
  refine AllReadyH.cons (o := ({ dst := some 11, op := Op.call { callee := Callee.value (Operand.func 48), args := #[Operand.tmp 10, Operand.const (Value.int IntKind.u32 0)], argTypes := #[26, 37] }, type := 25, pos := "pairs.go:94", after := #[{ on := 3, ground := Ground.data }], guard := none } : Oper)) rfl (fun Kq hKq => ?_) AllReadyH.nil
  go_simp
  (refine (HLD.out _ X (HX.out.new (Below.refl _ _).drew) HCB.out).mono ?_; rintro e w1 ⟨rfl, X1, h1, hc1⟩; have H1 := Lib.hid h1; have HC1 := Lib.hid hc1; clear h1 hc1)
  refine hKq.out _ _ ?_ (fun hHeld => ?_)
  · exact ⟨by rw [← HC1.out]; exact H1.out.pg.c.1, cell_row (H1.out.blk _ HKB.out) 0⟩
  clear hKq Kq
  (try simp only [Act.put, List.setIfInBounds_toArray, List.set_cons_zero, List.set_cons_succ])
  refine wpAnyH_take (i := 6) (oi := ({ dst := some 13, op := Op.binOp BinOp.neq 25 (Operand.tmp 11) (Operand.tmp 12) 25, type := 4, pos := "pairs.go:94", after := #[{ on := 4, ground := Ground.data }, { on := 5, ground := Ground.data }], guard := none } : Oper)) (v := ?vem6) rfl (by kernel_rfl) (by kernel_rfl) (by kernel_rfl) (fun _ _ _ h => h) (Or.inl ⟨by rfl, fun w hSw => ?hyem6⟩) (by assumption) ?rem6
  case hyem6 => (try dsimp only at hSw); go_simp; (try with_reducible rfl)
  (try simp only [Act.put, List.setIfInBounds_toArray, List.set_cons_zero, List.set_cons_succ])
  refine wpAnyH_done (by kernel_rfl) ?_ _
  clear hHeld HLD HX
  go_upto_region 2 with (fail)
  refine wp_region_held_drew (S := fun w' => w'.cell? ⟨XB, 0, none⟩ = some (Pw B) ∧ w'.cell? ⟨TB, 0, none⟩ = some (.int .i64 (t : Int)) ∧ w'.cell? ⟨OB, 0, none⟩ = some (.int .i64 b1) ∧ w'.cell? ⟨OB, 1, none⟩ = some (.int .i64 i1)) (by kernel_rfl) ?_ (fun hHeld => ?_)
  · exact ⟨cell_row ((H1.out.new (Below.refl _ _).drew).blk _ HXB.out) 0, cell_row ((H1.out.new (Below.refl _ _).drew).blk _ HTB.out) 0, cell_row ((H1.out.new (Below.refl _ _).drew).blk _ HOB.out) 0, cell_row ((H1.out.new (Below.refl _ _).drew).blk _ HOB.out) 1⟩
  refine wpAnyH_take (i := 0) (oi := ({ dst := some 14, op := Op.load 56 (Operand.tmp 3), type := 56, pos := "pairs.go:95", after := #[], guard := none } : Oper)) (v := ?vfm1) rfl (by kernel_rfl) (by kernel_rfl) (by kernel_rfl) (fun _ _ _ h => h) (Or.inl ⟨by rfl, fun w hSw => ?hyfm1⟩) (by assumption) ?rfm1
  case hyfm1 => (try dsimp only at hSw); go_simp; (try with_reducible rfl)
  (try simp only [Act.put, List.setIfInBounds_toArray, List.set_cons_zero, List.set_cons_succ])
  refine wpAnyH_take (i := 1) (oi := ({ dst := some 15, op := Op.indexAddr 116 (Operand.tmp 2) (Operand.const (Value.int IntKind.i64 0)), type := 0, pos := "pairs.go:95", after := #[], guard := none } : Oper)) (v := ?vfm2) rfl (by kernel_rfl) (by kernel_rfl) (by kernel_rfl) (fun _ _ _ h => h) (Or.inl ⟨by rfl, fun w hSw => ?hyfm2⟩) (by assumption) ?rfm2
  case hyfm2 => (try dsimp only at hSw); go_simp; (try with_reducible rfl)
  (try simp only [Act.put, List.setIfInBounds_toArray, List.set_cons_zero, List.set_cons_succ])
  refine wpAnyH_take (i := 2) (oi := ({ dst := some 16, op := Op.load 39 (Operand.tmp 15), type := 39, pos := "pairs.go:95", after := #[{ on := 1, ground := Ground.data }], guard := none } : Oper)) (v := ?vfm3) rfl (by kernel_rfl) (by kernel_rfl) (by kernel_rfl) (fun _ _ _ h => h) (Or.inl ⟨by rfl, fun w hSw => ?hyfm3⟩) (by assumption) ?rfm3
  case hyfm3 => (try dsimp only at hSw); go_simp; (try with_reducible rfl)
  (try simp only [Act.put, List.setIfInBounds_toArray, List.set_cons_zero, List.set_cons_succ])
  refine wpAnyH_take (i := 4) (oi := ({ dst := some 18, op := Op.load 56 (Operand.tmp 3), type := 56, pos := "pairs.go:95", after := #[], guard := none } : Oper)) (v := ?vfm4) rfl (by kernel_rfl) (by kernel_rfl) (by kernel_rfl) (fun _ _ _ h => h) (Or.inl ⟨by rfl, fun w hSw => ?hyfm4⟩) (by assumption) ?rfm4
  case hyfm4 => (try dsimp only at hSw); go_simp; (try with_reducible rfl)
  (try simp only [Act.put, List.setIfInBounds_toArray, List.set_cons_zero, List.set_cons_succ])
  refine wpAnyH_take (i := 5) (oi := ({ dst := some 19, op := Op.load 3 (Operand.tmp 4), type := 3, pos := "pairs.go:95", after := #[], guard := none } : Oper)) (v := ?vfm5) rfl (by kernel_rfl) (by kernel_rfl) (by kernel_rfl) (fun _ _ _ h => h) (Or.inl ⟨by rfl, fun w hSw => ?hyfm5⟩) (by assumption) ?rfm5
  case hyfm5 => (try dsimp only at hSw); go_simp; (try with_reducible rfl)
  (try simp only [Act.put, List.setIfInBounds_toArray, List.set_cons_zero, List.set_cons_succ])
  refine wpAnyH_ready (rs := [3]) (by kernel_rfl) (by simp) ?_
  refine AllReadyH.cons (o := ({ dst := some 17, op := Op.call { callee := Callee.value (Operand.func 34), args := #[Operand.tmp 16], argTypes := #[39] }, type := 121, pos := "pairs.go:95", after := #[{ on := 2, ground := Ground.data }], guard := none } : Oper)) rfl (fun Kq hKq => ?_) AllReadyH.nil
  go_simp
  (refine (leave_new (H1.out.new (Below.refl _ _).drew) HJU.out HU.out HZ.out).mono ?_; rintro e w2 ⟨V, U, rfl, hv2, h2⟩; have H2 := Lib.hid h2; have HV := Lib.hid hv2; clear h2 hv2)
  refine hKq.out _ _ ?_ (fun hHeld => ?_)
  · exact ⟨cell_row (H2.out.blk _ (app1 HXB.out)) 0, cell_row (H2.out.blk _ (app1 HTB.out)) 0, cell_row (H2.out.blk _ (app1 HOB.out)) 0, cell_row (H2.out.blk _ (app1 HOB.out)) 1⟩
  clear hKq Kq
  (try simp only [Act.put, List.setIfInBounds_toArray, List.set_cons_zero, List.set_cons_succ])
  refine wpAnyH_ready (rs := [6]) (by kernel_rfl) (by simp) ?_
  refine AllReadyH.cons (o := ({ dst := some 20, op := Op.call { callee := Callee.value (Operand.func 32), args := #[Operand.tmp 18, Operand.tmp 19], argTypes := #[56, 3] }, type := 121, pos := "pairs.go:95", after := #[{ on := 4, ground := Ground.data }, { on := 5, ground := Ground.data }, { on := 3, ground := Ground.chain }], guard := none } : Oper)) rfl (fun Kq hKq => ?_) AllReadyH.nil
  go_simp
  (refine (look_new B (t : Int) _).mono ?_; rintro e w3 ⟨rfl, rfl⟩; have h3 := (H2.out.push (.cells #[Pw B] 56)).push (.cells #[.int .i64 (t : Int)] 3); have H3 := Lib.hid h3; clear h3)
  refine hKq.out _ _ ?_ (fun hHeld => ?_)
  · exact ⟨cell_row (H3.out.blk _ (app3 HXB.out)) 0, cell_row (H3.out.blk _ (app3 HTB.out)) 0, cell_row (H3.out.blk _ (app3 HOB.out)) 0, cell_row (H3.out.blk _ (app3 HOB.out)) 1⟩
  clear hKq Kq
  (try simp only [Act.put, List.setIfInBounds_toArray, List.set_cons_zero, List.set_cons_succ])
  refine wpAnyH_ready (rs := [7]) (by kernel_rfl) (by simp) ?_
  refine AllReadyH.cons (o := ({ dst := some 21, op := Op.buildSlice 118 2 #[(0, Operand.tmp 17), (1, Operand.tmp 20)], type := 118, pos := "pairs.go:95", after := #[{ on := 3, ground := Ground.data }, { on := 6, ground := Ground.data }], guard := none } : Oper)) rfl (fun Kq hKq => ?_) AllReadyH.nil
  (go_simp; have h4 := H3.out.push (.cells #[leaveF V, lookF w2.heap.size (w2.heap.size + 1)] 121); simp only [alloc_size] at h4; have H4 := Lib.hid h4; clear h4; generalize (((w2.alloc (.cells #[Pw B] 56)).alloc (.cells #[.int .i64 (t : Int)] 3)).alloc (.cells #[leaveF V, lookF w2.heap.size (w2.heap.size + 1)] 121)) = w4 at *)
  refine hKq.out _ _ ?_ (fun hHeld => ?_)
  · exact ⟨cell_row (H4.out.blk _ (app4 HXB.out)) 0, cell_row (H4.out.blk _ (app4 HTB.out)) 0, cell_row (H4.out.blk _ (app4 HOB.out)) 0, cell_row (H4.out.blk _ (app4 HOB.out)) 1⟩
  clear hKq Kq
  (try simp only [Act.put, List.setIfInBounds_toArray, List.set_cons_zero, List.set_cons_succ])
  refine wpAnyH_take (i := 8) (oi := ({ dst := some 22, op := Op.nilCheck (Operand.tmp 14), type := 0, pos := "pairs.go:95", after := #[{ on := 0, ground := Ground.data }, { on := 0, ground := Ground.phase }, { on := 1, ground := Ground.phase }, { on := 2, ground := Ground.phase }, { on := 3, ground := Ground.phase }, { on := 4, ground := Ground.phase }, { on := 5, ground := Ground.phase }, { on := 6, ground := Ground.phase }, { on := 7, ground := Ground.phase }], guard := none } : Oper)) (v := ?vfm6) rfl (by kernel_rfl) (by kernel_rfl) (by kernel_rfl) (fun _ _ _ h => h) (Or.inl ⟨by rfl, fun w hSw => ?hyfm6⟩) (by assumption) ?rfm6
  case hyfm6 => (try dsimp only at hSw); go_simp; (try with_reducible rfl)
  (try simp only [Act.put, List.setIfInBounds_toArray, List.set_cons_zero, List.set_cons_succ])
  refine wpAnyH_take (i := 9) (oi := ({ dst := some 23, op := Op.fieldAddr 120 (Operand.tmp 22) 2, type := 0, pos := "pairs.go:95", after := #[{ on := 8, ground := Ground.data }, { on := 0, ground := Ground.phase }, { on := 1, ground := Ground.phase }, { on := 2, ground := Ground.phase }, { on := 3, ground := Ground.phase }, { on := 4, ground := Ground.phase }, { on := 5, ground := Ground.phase }, { on := 6, ground := Ground.phase }, { on := 7, ground := Ground.phase }], guard := none } : Oper)) (v := ?vfm7) rfl (by kernel_rfl) (by kernel_rfl) (by kernel_rfl) (fun _ _ _ h => h) (Or.inl ⟨by rfl, fun w hSw => ?hyfm7⟩) (by assumption) ?rfm7
  case hyfm7 => (try dsimp only at hSw); go_simp; (try with_reducible rfl)
  (try simp only [Act.put, List.setIfInBounds_toArray, List.set_cons_zero, List.set_cons_succ])
  refine wpAnyH_ready (rs := [10]) (by kernel_rfl) (by simp) ?_
  refine AllReadyH.cons (o := ({ dst := none, op := Op.store 118 (Operand.tmp 23) (Operand.tmp 21), type := 0, pos := "pairs.go:95", after := #[{ on := 9, ground := Ground.data }, { on := 7, ground := Ground.data }, { on := 6, ground := Ground.chain }, { on := 0, ground := Ground.phase }, { on := 1, ground := Ground.phase }, { on := 2, ground := Ground.phase }, { on := 3, ground := Ground.phase }, { on := 4, ground := Ground.phase }, { on := 5, ground := Ground.phase }, { on := 6, ground := Ground.phase }, { on := 7, ground := Ground.phase }], guard := none } : Oper)) rfl (fun Kq hKq => ?_) AllReadyH.nil
  (have y1 : w4.cell? ⟨B, 6, none⟩ = some left := cell_row (H4.out.blk _ (app4 HB.out)) 6; have f1 : w4.frozen? ⟨B, 6, none⟩ = false := froz_row (H4.out.blk _ (app4 HB.out)) 6; go_simp; have h5 := H4.out.put _ (app4 HB.out) 6 (.slice (some ⟨w2.heap.size + 1 + 1, 0, none⟩) 2 2) rfl; have H5 := Lib.hid h5; clear y1 f1 h5; generalize w4.setCell ⟨B, 6, none⟩ (.slice (some ⟨w2.heap.size + 1 + 1, 0, none⟩) 2 2) = w5 at *)
  refine hKq.out _ _ ?_ (fun hHeld => ?_)
  · exact ⟨cell_row (H5.out.blk _ (set_at2 (app4 HXB.out) HNE.out.1)) 0, cell_row (H5.out.blk _ (set_at2 (app4 HTB.out) HNE.out.2.1)) 0, cell_row (H5.out.blk _ (set_at2 (app4 HOB.out) HNE.out.2.2)) 0, cell_row (H5.out.blk _ (set_at2 (app4 HOB.out) HNE.out.2.2)) 1⟩
  clear hKq Kq
  (try simp only [Act.put, List.setIfInBounds_toArray, List.set_cons_zero, List.set_cons_succ])
  refine wpAnyH_done (by kernel_rfl) ?_ _
  clear hHeld
  go_wp2_with fail
  go_ret
  have h6 := H5.out
  simp only [List.append_assoc, List.cons_append, List.nil_append] at h6
  exact ⟨rfl, X1, V, U, w2.heap.size, w2.heap.size + 1, w2.heap.size + 1 + 1, h6.keep HKL.out⟩
end
end Go.Proofs.Ytdfokceecnmocaa.S16
