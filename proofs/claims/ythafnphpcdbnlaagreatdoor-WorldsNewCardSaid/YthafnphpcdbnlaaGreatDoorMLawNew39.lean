/- Texts of this seat, one behind the other. -/
import Derived.Test.YthafnphpcdbnlaaGreatDoorMLawNew38
set_option linter.unusedVariables false
set_option linter.unusedSimpArgs false
set_option linter.unusedVariables false
set_option linter.unusedSimpArgs false
namespace Go.Proofs.YthafnphpcdbnlaaGreatDoor.S12
open Go.Proofs.YthafnphpcdbnlaaGreatDoor Go.Proofs.YthafnphpcdbnlaaGreatDoor.S11
open Go.RowKit

section
variable {spin : Int} {most n cc : Nat} {A : Option Addr} {X : Nat} {D : List Nat} {w0 : World}
/-- What holds, whatever has come up. -/
def I7 (spin : Int) (most n cc : Nat) (A : Option Addr) (X : Nat) (D : List Nat) (w0 : World) (L : Array Bool) (a : Act) (w : World) : Prop :=
  ∃ (c : Nat) (b0 b1 b2 : Bool) (x20 x21 x26 x28 x30 x31 x33 : Value) (q0 qc qk qt qp ql qn : Part), c ≤ 4 ∧ L = L7 c b0 b1 b2 ∧ a = F7 spin most n cc A X undef x20 x21 x26 x28 x30 x31 x33 undef undef ∧ Below X w0 w ∧ G7 w X (.cells #[.int .i64 spin, .int .u64 (most : Int), .slice A n cc] 35) most D c b0 b1 b2 x20 x21 x26 x28 x30 x31 x33 q0 qc qk qt qp ql qn
set_option maxHeartbeats 4000000 in
set_option maxRecDepth 100000 in
theorem step1 {Q : Exit → Act → World → Prop} {S : World → Prop} {w : World} {b0 b1 b2 : Bool} {x20 x21 x26 x28 x30 x31 x33 : Value} {q0 qc qk qt qp ql qn : Part}
    (hb : Below X w0 w) (g : G7 w X (.cells #[.int .i64 spin, .int .u64 (most : Int), .slice A n cc] 35) most D 0 b0 b1 b2 x20 x21 x26 x28 x30 x31 x33 q0 qc qk qt qp ql qn)
    (hS : ∀ w' l, Parts w' X (blockP X (.cells #[.int .i64 spin, .int .u64 (most : Int), .slice A n cc] 35) :: l) → S w') :
    wpOp Tryz.prog R7 Q 1 (fun a' w' => S w' ∧ I7 spin most n cc A X D w0 ((L7 0 b0 b1 b2).setIfInBounds 1 true) a' w') (F7 spin most n cc A X undef x20 x21 x26 x28 x30 x31 x33 undef undef) w := by
  have hq : q0 = emptyP := g.h0
  subst hq
  have hP := g.ps.fill (i := 1) rfl (blockP w.heap.size wordsO) (below1 w wordsO) (heap_alloc_new w _) (fun k e => Nat.le_of_eq e.symm)
  have hb' : Below X w0 (w.alloc wordsO) := hb.alloc g.ps.size _
  have hfin : S (w.alloc wordsO) ∧ I7 spin most n cc A X D w0 ((L7 0 b0 b1 b2).setIfInBounds 1 true) (F7 spin most n cc A X undef (.slice (some ⟨w.heap.size, 0, none⟩) 1 1) x21 x26 x28 x30 x31 x33 undef undef) (w.alloc wordsO) :=
    ⟨hS _ _ hP, 1, b0, b1, b2, _, _, _, _, _, _, _, _, _, _, _, _, _, _, by omega, set1 .., rfl, hb', ⟨hP, ⟨_, rfl, rfl⟩, g.hc, g.hk, g.ht, g.hp, g.hl, g.hn⟩⟩
  have HF := Lib.hid hfin
  clear hfin hP hb' hS hb g
  refine wpOp_step (o := ({ dst := some 20, op := Op.buildSlice 78 1 #[(0, Operand.tmp 19)], type := 78, pos := "ref.go:40", after := #[{ on := 0, ground := Ground.data }], guard := none } : Oper)) rfl (fun Kq hKq => ?_)
  have HK := Lib.hid hKq
  clear hKq
  unfold F7
  go_simp
  exact HK.out _ _ HF.out
set_option maxHeartbeats 4000000 in
set_option maxRecDepth 100000 in
theorem step9 {Q : Exit → Act → World → Prop} {S : World → Prop} {w : World} {c : Nat} (hc4 : c ≤ 4) {b1 b2 : Bool} {x20 x21 x26 x28 x30 x31 x33 : Value} {q0 qc qk qt qp ql qn : Part}
    (hb : Below X w0 w) (g : G7 w X (.cells #[.int .i64 spin, .int .u64 (most : Int), .slice A n cc] 35) most D c false b1 b2 x20 x21 x26 x28 x30 x31 x33 q0 qc qk qt qp ql qn)
    (hS : ∀ w' l, Parts w' X (blockP X (.cells #[.int .i64 spin, .int .u64 (most : Int), .slice A n cc] 35) :: l) → S w') :
    wpOp Tryz.prog R7 Q 9 (fun a' w' => S w' ∧ I7 spin most n cc A X D w0 ((L7 c false b1 b2).setIfInBounds 9 true) a' w') (F7 spin most n cc A X undef x20 x21 x26 x28 x30 x31 x33 undef undef) w := by
  have hq : qp = emptyP := g.hp
  subst hq
  have hP := g.ps.fill (i := 5) rfl (blockP w.heap.size (.cells Tryz.zeroCells84 84)) (below1 w (.cells Tryz.zeroCells84 84)) (heap_alloc_new w _) (fun k e => Nat.le_of_eq e.symm)
  have hb' : Below X w0 (w.alloc (.cells Tryz.zeroCells84 84)) := hb.alloc g.ps.size _
  have hfin : S (w.alloc (.cells Tryz.zeroCells84 84)) ∧ I7 spin most n cc A X D w0 ((L7 c false b1 b2).setIfInBounds 9 true) (F7 spin most n cc A X undef x20 x21 x26 (.pointer (some ⟨w.heap.size, 0, none⟩)) x30 x31 x33 undef undef) (w.alloc (.cells Tryz.zeroCells84 84)) :=
    ⟨hS _ _ hP, c, true, b1, b2, _, _, _, _, _, _, _, _, _, _, _, _, _, _, hc4, set9 .., rfl, hb', ⟨hP, g.h0, g.hc, g.hk, g.ht, ⟨_, rfl, rfl⟩, g.hl, g.hn⟩⟩
  have HF := Lib.hid hfin
  clear hfin hP hb' hS hb g
  refine wpOp_step (o := ({ dst := some 28, op := Op.box 84 (Operand.tmp 27), type := 50, pos := "ref.go:40", after := #[{ on := 8, ground := Ground.data }], guard := none } : Oper)) rfl (fun Kq hKq => ?_)
  have HK := Lib.hid hKq
  clear hKq
  unfold F7
  go_simp
  exact HK.out _ _ HF.out
set_option maxHeartbeats 4000000 in
set_option maxRecDepth 100000 in
theorem step11 {Q : Exit → Act → World → Prop} {S : World → Prop} {w : World} {c : Nat} (hc4 : c ≤ 4) {b0 b2 : Bool} {x20 x21 x26 x28 x30 x31 x33 : Value} {q0 qc qk qt qp ql qn : Part}
    (hb : Below X w0 w) (g : G7 w X (.cells #[.int .i64 spin, .int .u64 (most : Int), .slice A n cc] 35) most D c b0 false b2 x20 x21 x26 x28 x30 x31 x33 q0 qc qk qt qp ql qn)
    (hS : ∀ w' l, Parts w' X (blockP X (.cells #[.int .i64 spin, .int .u64 (most : Int), .slice A n cc] 35) :: l) → S w') :
    wpOp Tryz.prog R7 Q 11 (fun a' w' => S w' ∧ I7 spin most n cc A X D w0 ((L7 c b0 false b2).setIfInBounds 11 true) a' w') (F7 spin most n cc A X undef x20 x21 x26 x28 x30 x31 x33 undef undef) w := by
  have hq : ql = emptyP := g.hl
  subst hq
  have hP := g.ps.fill (i := 6) rfl (blockP w.heap.size (.cells Tryz.zeroCells89 89)) (below1 w (.cells Tryz.zeroCells89 89)) (heap_alloc_new w _) (fun k e => Nat.le_of_eq e.symm)
  have hb' : Below X w0 (w.alloc (.cells Tryz.zeroCells89 89)) := hb.alloc g.ps.size _
  have hfin : S (w.alloc (.cells Tryz.zeroCells89 89)) ∧ I7 spin most n cc A X D w0 ((L7 c b0 false b2).setIfInBounds 11 true) (F7 spin most n cc A X undef x20 x21 x26 x28 (.pointer (some ⟨w.heap.size, 0, none⟩)) x31 x33 undef undef) (w.alloc (.cells Tryz.zeroCells89 89)) :=
    ⟨hS _ _ hP, c, b0, true, b2, _, _, _, _, _, _, _, _, _, _, _, _, _, _, hc4, set11 .., rfl, hb', ⟨hP, g.h0, g.hc, g.hk, g.ht, g.hp, ⟨_, rfl, rfl⟩, g.hn⟩⟩
  have HF := Lib.hid hfin
  clear hfin hP hb' hS hb g
  refine wpOp_step (o := ({ dst := some 30, op := Op.box 89 (Operand.tmp 29), type := 51, pos := "ref.go:40", after := #[{ on := 10, ground := Ground.data }], guard := none } : Oper)) rfl (fun Kq hKq => ?_)
  have HK := Lib.hid hKq
  clear hKq
  unfold F7
  go_simp
  exact HK.out _ _ HF.out
set_option maxHeartbeats 4000000 in
set_option maxRecDepth 100000 in
theorem step14 {Q : Exit → Act → World → Prop} {S : World → Prop} {w : World} {c : Nat} (hc4 : c ≤ 4) {b0 b1 : Bool} {x20 x21 x26 x28 x30 x31 x33 : Value} {q0 qc qk qt qp ql qn : Part}
    (hb : Below X w0 w) (g : G7 w X (.cells #[.int .i64 spin, .int .u64 (most : Int), .slice A n cc] 35) most D c b0 b1 false x20 x21 x26 x28 x30 x31 x33 q0 qc qk qt qp ql qn)
    (hS : ∀ w' l, Parts w' X (blockP X (.cells #[.int .i64 spin, .int .u64 (most : Int), .slice A n cc] 35) :: l) → S w') :
    wpOp Tryz.prog R7 Q 14 (fun a' w' => S w' ∧ I7 spin most n cc A X D w0 ((L7 c b0 b1 false).setIfInBounds 14 true) a' w') (F7 spin most n cc A X undef x20 x21 x26 x28 x30 x31 x33 undef undef) w := by
  have hq : qn = emptyP := g.hn
  subst hq
  have hP := g.ps.fill (i := 7) rfl (blockP w.heap.size (.cells #[.slice none 0 0] 93)) (below1 w (.cells #[.slice none 0 0] 93)) (heap_alloc_new w _) (fun k e => Nat.le_of_eq e.symm)
  have hb' : Below X w0 (w.alloc (.cells #[.slice none 0 0] 93)) := hb.alloc g.ps.size _
  have hfin : S (w.alloc (.cells #[.slice none 0 0] 93)) ∧ I7 spin most n cc A X D w0 ((L7 c b0 b1 false).setIfInBounds 14 true) (F7 spin most n cc A X undef x20 x21 x26 x28 x30 x31 (.pointer (some ⟨w.heap.size, 0, none⟩)) undef undef) (w.alloc (.cells #[.slice none 0 0] 93)) :=
    ⟨hS _ _ hP, c, b0, b1, true, _, _, _, _, _, _, _, _, _, _, _, _, _, _, hc4, set14 .., rfl, hb', ⟨hP, g.h0, g.hc, g.hk, g.ht, g.hp, g.hl, ⟨_, rfl, rfl⟩⟩⟩
  have HF := Lib.hid hfin
  clear hfin hP hb' hS hb g
  refine wpOp_step (o := ({ dst := some 33, op := Op.box 93 (Operand.tmp 32), type := 53, pos := "ref.go:40", after := #[{ on := 13, ground := Ground.data }], guard := none } : Oper)) rfl (fun Kq hKq => ?_)
  have HK := Lib.hid hKq
  clear hKq
  unfold F7
  go_simp
  exact HK.out _ _ HF.out
set_option maxHeartbeats 4000000 in
set_option maxRecDepth 100000 in
theorem step2 {Q : Exit → Act → World → Prop} {S : World → Prop} {w : World} {b0 b1 b2 : Bool} {x20 x21 x26 x28 x30 x31 x33 : Value} {q0 qc qk qt qp ql qn : Part}
    (hb : Below X w0 w) (g : G7 w X (.cells #[.int .i64 spin, .int .u64 (most : Int), .slice A n cc] 35) most D 1 b0 b1 b2 x20 x21 x26 x28 x30 x31 x33 q0 qc qk qt qp ql qn)
    (hS : ∀ w' l, Parts w' X (blockP X (.cells #[.int .i64 spin, .int .u64 (most : Int), .slice A n cc] 35) :: l) → S w') :
    wpOp Tryz.prog R7 Q 2 (fun a' w' => S w' ∧ I7 spin most n cc A X D w0 ((L7 1 b0 b1 b2).setIfInBounds 2 true) a' w') (F7 spin most n cc A X undef x20 x21 x26 x28 x30 x31 x33 undef undef) w := by
  have hq : qc = emptyP := g.hc
  subst hq
  obtain ⟨B0, hx, hq0⟩ : ∃ B, x20 = .slice (some ⟨B, 0, none⟩) 1 1 ∧ q0 = blockP B wordsO := g.h0
  subst hx
  have hW : w.heap[B0]? = some wordsO := by have := g.ps.ok 1 q0 rfl; rw [hq0] at this; exact this
  have hlt : B0 < w.heap.size := (Array.getElem?_eq_some_iff.1 hW).1
  have hin : S2.WIn w w.heap.size (some ⟨B0, 0, none⟩) 1 (fun _ => 0) (fun _ => 2) := fun _ => ⟨B0, 0, rfl, hlt, fun i hi => by
    obtain rfl : i = 0 := by omega
    exact ⟨cell_row hW 0, cell_row hW 1⟩⟩
  have hcall := S2.rnew_any (some ⟨B0, 0, none⟩) 1 1 (fun _ => 0) (fun _ => 2) (by omega) (fun i _ => ⟨by simp, by simp⟩) w hin
  have HC := Lib.hid hcall
  clear hcall hin hlt hW
  have hfin : ∀ w' (b B : Nat) (s : Value), Below w.heap.size w w' → (rcellsP b B s L02 0 0 0 0 0).ok w' → (∀ k, (rcellsP b B s L02 0 0 0 0 0).fp k → w.heap.size ≤ k) → S w' ∧ I7 spin most n cc A X D w0 ((L7 1 b0 b1 b2).setIfInBounds 2 true) (F7 spin most n cc A X undef (.slice (some ⟨B0, 0, none⟩) 1 1) (.pointer (some ⟨B, 0, none⟩)) x26 x28 x30 x31 x33 undef undef) w' := fun w' b B s hbw hok hfp => by
    have hP := g.ps.fill (i := 2) rfl (rcellsP b B s L02 0 0 0 0 0) hbw hok hfp
    exact ⟨hS _ _ hP, 2, b0, b1, b2, _, _, _, _, _, _, _, _, _, _, _, _, _, _, by omega, set2 .., rfl, hb.trans (hbw.mono g.ps.size), ⟨hP, g.h0, ⟨_, _, _, rfl, rfl⟩, g.hk, g.ht, g.hp, g.hl, g.hn⟩⟩
  have HF := Lib.hid hfin
  clear hfin hS hb g
  refine wpOp_step (o := ({ dst := some 21, op := Op.call { callee := Callee.value (Operand.func 24), args := #[Operand.tmp 20], argTypes := #[78] }, type := 48, pos := "ref.go:40", after := #[{ on := 1, ground := Ground.data }], guard := none } : Oper)) rfl (fun Kq hKq => ?_)
  have HK := Lib.hid hKq
  clear hKq
  unfold F7
  go_simp
  refine HC.out.mono ?_
  rintro e w1 ⟨R, s, rfl, hR, hr, hbw⟩
  refine HK.out _ _ (HF.out w1 w.heap.size R s hbw hr (fun k e => ?_))
  rcases e with e | e
  · omega
  · exact (hr.own.lt k e).1
set_option maxHeartbeats 4000000 in
set_option maxRecDepth 100000 in
theorem step7 {Q : Exit → Act → World → Prop} {S : World → Prop} {w : World} {b0 b1 b2 : Bool} {x20 x21 x26 x28 x30 x31 x33 : Value} {q0 qc qk qt qp ql qn : Part}
    (hb : Below X w0 w) (g : G7 w X (.cells #[.int .i64 spin, .int .u64 (most : Int), .slice A n cc] 35) most D 2 b0 b1 b2 x20 x21 x26 x28 x30 x31 x33 q0 qc qk qt qp ql qn)
    (hS : ∀ w' l, Parts w' X (blockP X (.cells #[.int .i64 spin, .int .u64 (most : Int), .slice A n cc] 35) :: l) → S w')
    (hclk : ∀ W, Below X w0 W → Calls Tryz.prog 25 #[.slice A n cc, .int .u64 (most : Int)] W (S3.RMade W 0 most (D.take 65536))) :
    wpOp Tryz.prog R7 Q 7 (fun a' w' => S w' ∧ I7 spin most n cc A X D w0 ((L7 2 b0 b1 b2).setIfInBounds 7 true) a' w') (F7 spin most n cc A X undef x20 x21 x26 x28 x30 x31 x33 undef undef) w := by
  have hq : qk = emptyP := g.hk
  subst hq
  have hcall := hclk w hb
  have HC := Lib.hid hcall
  clear hcall hclk
  have hfin : ∀ w' (b B : Nat) (s : Value), Below w.heap.size w w' → (rclockP b B 0 most s (D.take 65536)).ok w' → (∀ k, (rclockP b B 0 most s (D.take 65536)).fp k → w.heap.size ≤ k) → S w' ∧ I7 spin most n cc A X D w0 ((L7 2 b0 b1 b2).setIfInBounds 7 true) (F7 spin most n cc A X undef x20 x21 (.pointer (some ⟨B, 0, none⟩)) x28 x30 x31 x33 undef undef) w' := fun w' b B s hbw hok hfp => by
    have hP := g.ps.fill (i := 3) rfl (rclockP b B 0 most s (D.take 65536)) hbw hok hfp
    exact ⟨hS _ _ hP, 3, b0, b1, b2, _, _, _, _, _, _, _, _, _, _, _, _, _, _, by omega, set7 .., rfl, hb.trans (hbw.mono g.ps.size), ⟨hP, g.h0, g.hc, ⟨_, _, _, rfl, rfl⟩, g.ht, g.hp, g.hl, g.hn⟩⟩
  have HF := Lib.hid hfin
  clear hfin hS hb g
  refine wpOp_step (o := ({ dst := some 26, op := Op.call { callee := Callee.value (Operand.func 25), args := #[Operand.tmp 23, Operand.tmp 25], argTypes := #[23, 22] }, type := 49, pos := "ref.go:40", after := #[{ on := 4, ground := Ground.data }, { on := 6, ground := Ground.data }, { on := 2, ground := Ground.chain }], guard := none } : Oper)) rfl (fun Kq hKq => ?_)
  have HK := Lib.hid hKq
  clear hKq
  unfold F7
  go_simp
  refine HC.out.mono ?_
  rintro e w1 ⟨R, s, rfl, hR, hr, hbw⟩
  refine HK.out _ _ (HF.out w1 w.heap.size R s hbw hr (fun k e => ?_))
  rcases e with e | e
  · omega
  · exact (hr.own.lt k e).1
set_option maxHeartbeats 4000000 in
set_option maxRecDepth 100000 in
theorem step12 {Q : Exit → Act → World → Prop} {S : World → Prop} {w : World} {b0 b1 b2 : Bool} {x20 x21 x26 x28 x30 x31 x33 : Value} {q0 qc qk qt qp ql qn : Part}
    (hb : Below X w0 w) (g : G7 w X (.cells #[.int .i64 spin, .int .u64 (most : Int), .slice A n cc] 35) most D 3 b0 b1 b2 x20 x21 x26 x28 x30 x31 x33 q0 qc qk qt qp ql qn)
    (hS : ∀ w' l, Parts w' X (blockP X (.cells #[.int .i64 spin, .int .u64 (most : Int), .slice A n cc] 35) :: l) → S w') :
    wpOp Tryz.prog R7 Q 12 (fun a' w' => S w' ∧ I7 spin most n cc A X D w0 ((L7 3 b0 b1 b2).setIfInBounds 12 true) a' w') (F7 spin most n cc A X undef x20 x21 x26 x28 x30 x31 x33 undef undef) w := by
  have hq : qt = emptyP := g.ht
  subst hq
  have hcall := S10.rnew_any 0 w
  have HC := Lib.hid hcall
  clear hcall
  have hfin : ∀ w' (x : Value) (b : Nat) (own : Nat → Option S10.Role), Below w.heap.size w w' → (rtablesP b own x (S10.M0 0)).ok w' → (∀ k, (rtablesP b own x (S10.M0 0)).fp k → w.heap.size ≤ k) → S w' ∧ I7 spin most n cc A X D w0 ((L7 3 b0 b1 b2).setIfInBounds 12 true) (F7 spin most n cc A X undef x20 x21 x26 x28 x30 (x) x33 undef undef) w' := fun w' x b own hbw hok hfp => by
    have hP := g.ps.fill (i := 4) rfl (rtablesP b own x (S10.M0 0)) hbw hok hfp
    exact ⟨hS _ _ hP, 4, b0, b1, b2, _, _, _, _, _, _, _, _, _, _, _, _, _, _, by omega, set12 .., rfl, hb.trans (hbw.mono g.ps.size), ⟨hP, g.h0, g.hc, g.hk, ⟨_, _, rfl⟩, g.hp, g.hl, g.hn⟩⟩
  have HF := Lib.hid hfin
  clear hfin hS hb g
  refine wpOp_step (o := ({ dst := some 31, op := Op.call { callee := Callee.value (Operand.func 26), args := #[Operand.const (Value.int IntKind.u64 0)], argTypes := #[22] }, type := 52, pos := "ref.go:40", after := #[{ on := 7, ground := Ground.chain }], guard := none } : Oper)) rfl (fun Kq hKq => ?_)
  have HK := Lib.hid hKq
  clear hKq
  unfold F7
  go_simp
  refine HC.out.mono ?_
  rintro e w1 ⟨s, own, rfl, hr, hbw⟩
  refine HK.out _ _ (HF.out w1 s w.heap.size own hbw hr (fun k e => (hr.fp e).1))
end
end Go.Proofs.YthafnphpcdbnlaaGreatDoor.S12
set_option linter.unusedVariables false
set_option linter.unusedSimpArgs false
namespace Go.Proofs.YthafnphpcdbnlaaGreatDoor.S12
open Go.Proofs.YthafnphpcdbnlaaGreatDoor Go.Proofs.YthafnphpcdbnlaaGreatDoor.S11
open Go.RowKit

/-- A world's cells: six pointers, the spins, the tokens. -/
noncomputable def wcells (a b c d e f : Value) (spin : Int) : Array Value := ((((((Tryz.zeroCells55.setIfInBounds 0 a).setIfInBounds 1 b).setIfInBounds 2 c).setIfInBounds 3 d).setIfInBounds 4 e).setIfInBounds 5 f).setIfInBounds 6 (.int .i64 spin)
section
variable {spin : Int} {most n cc : Nat} {A : Option Addr} {X : Nat} {D : List Nat} {w0 : World}
set_option maxHeartbeats 4000000 in
set_option maxRecDepth 100000 in
theorem fin7 {Q : Exit → Act → World → Prop} {S : World → Prop} {w : World} {Bc Bk Bp Bl Bn Bt : Nat} {x20 : Value}
    (hQp : ∀ c a (t : Nat) v w, Q (.panic c) (Act.put a (some t) v) w → Q (.panic c) a w) (hSw : S w) (hS1 : S (w.alloc (.cells (wcells (.pointer (some ⟨Bc, 0, none⟩)) (.pointer (some ⟨Bk, 0, none⟩)) (.pointer (some ⟨Bp, 0, none⟩)) (.pointer (some ⟨Bl, 0, none⟩)) (.pointer (some ⟨Bt, 0, none⟩)) (.pointer (some ⟨Bn, 0, none⟩)) spin) 55)))
    (hout : Q .normal (F7 spin most n cc A X (.pointer (some ⟨w.heap.size, 0, none⟩)) x20 (.pointer (some ⟨Bc, 0, none⟩)) (.pointer (some ⟨Bk, 0, none⟩)) (.pointer (some ⟨Bp, 0, none⟩)) (.pointer (some ⟨Bl, 0, none⟩)) (.pointer (some ⟨Bt, 0, none⟩)) (.pointer (some ⟨Bn, 0, none⟩)) (.agg (wcells (.pointer (some ⟨Bc, 0, none⟩)) (.pointer (some ⟨Bk, 0, none⟩)) (.pointer (some ⟨Bp, 0, none⟩)) (.pointer (some ⟨Bl, 0, none⟩)) (.pointer (some ⟨Bt, 0, none⟩)) (.pointer (some ⟨Bn, 0, none⟩)) spin)) (.pointer (some ⟨w.heap.size, 0, none⟩))) (w.alloc (.cells (wcells (.pointer (some ⟨Bc, 0, none⟩)) (.pointer (some ⟨Bk, 0, none⟩)) (.pointer (some ⟨Bp, 0, none⟩)) (.pointer (some ⟨Bl, 0, none⟩)) (.pointer (some ⟨Bt, 0, none⟩)) (.pointer (some ⟨Bn, 0, none⟩)) spin) 55)))
    (m : Nat) : wpAnyH Tryz.prog .any R7 Q S (m + 3) (L7 4 true true true) (F7 spin most n cc A X undef x20 (.pointer (some ⟨Bc, 0, none⟩)) (.pointer (some ⟨Bk, 0, none⟩)) (.pointer (some ⟨Bp, 0, none⟩)) (.pointer (some ⟨Bl, 0, none⟩)) (.pointer (some ⟨Bt, 0, none⟩)) (.pointer (some ⟨Bn, 0, none⟩)) undef undef) w := by
  unfold wcells at hS1 hout
  unfold F7 at hout
  have HS1 := Lib.hid hS1
  have HOUT := Lib.hid hout
  clear hS1 hout
  have hHeld := hSw
  unfold F7 R7 L7
  refine wpAnyH_take (i := 17) (oi := ({ dst := some 36, op := Op.build 55 #[(0, Operand.tmp 21), (1, Operand.tmp 26), (2, Operand.tmp 28), (3, Operand.tmp 30), (4, Operand.tmp 31), (5, Operand.tmp 33), (6, Operand.tmp 35)], type := 55, pos := "ref.go:40", after := #[{ on := 2, ground := Ground.data }, { on := 7, ground := Ground.data }, { on := 9, ground := Ground.data }, { on := 11, ground := Ground.data }, { on := 12, ground := Ground.data }, { on := 14, ground := Ground.data }, { on := 16, ground := Ground.data }], guard := none } : Oper)) (v := ?vz17) rfl (by kernel_rfl) (by kernel_rfl) (by kernel_rfl) (fun c a w h => hQp c a _ _ w h) (Or.inl ⟨by rfl, fun w hSw => ?hyz17⟩) (by assumption) ?rz17
  case hyz17 => (try dsimp only at hSw); go_simp; (try with_reducible rfl)
  (try simp only [Act.put, List.setIfInBounds_toArray, List.set_cons_zero, List.set_cons_succ])
  refine wpAnyH_ready (rs := [18]) (by kernel_rfl) (by simp) ?_
  refine AllReadyH.cons (o := ({ dst := some 37, op := Op.box 55 (Operand.tmp 36), type := 32, pos := "ref.go:40", after := #[{ on := 17, ground := Ground.data }], guard := none } : Oper)) rfl (fun Kq hKq => ?_) AllReadyH.nil
  go_simp
  refine hKq.out _ _ ?_ (fun hHeld => ?_)
  · exact HS1.out
  clear hKq Kq
  (try simp only [Act.put, List.setIfInBounds_toArray, List.set_cons_zero, List.set_cons_succ])
  refine wpAnyH_take (i := 19) (oi := ({ dst := some 4, op := Op.assign (Operand.tmp 37), type := 32, pos := "ref.go:40", after := #[{ on := 18, ground := Ground.data }, { on := 12, ground := Ground.chain }, { on := 0, ground := Ground.phase }, { on := 1, ground := Ground.phase }, { on := 2, ground := Ground.phase }, { on := 3, ground := Ground.phase }, { on := 4, ground := Ground.phase }, { on := 5, ground := Ground.phase }, { on := 6, ground := Ground.phase }, { on := 7, ground := Ground.phase }, { on := 8, ground := Ground.phase }, { on := 9, ground := Ground.phase }, { on := 10, ground := Ground.phase }, { on := 11, ground := Ground.phase }, { on := 12, ground := Ground.phase }, { on := 13, ground := Ground.phase }, { on := 14, ground := Ground.phase }, { on := 15, ground := Ground.phase }, { on := 16, ground := Ground.phase }, { on := 17, ground := Ground.phase }, { on := 18, ground := Ground.phase }], guard := none } : Oper)) (v := ?vz19) rfl (by kernel_rfl) (by kernel_rfl) (by kernel_rfl) (fun c a w h => hQp c a _ _ w h) (Or.inl ⟨by rfl, fun w hSw => ?hyz19⟩) (by assumption) ?rz19
  case hyz19 => (try dsimp only at hSw); go_simp; (try with_reducible rfl)
  (try simp only [Act.put, List.setIfInBounds_toArray, List.set_cons_zero, List.set_cons_succ])
  refine wpAnyH_done (by kernel_rfl) ?_ _
  exact HOUT.out
/-- Whatever the order: a world of the document's, each of its things in blocks of its own. -/
theorem all7 {Q : Exit → Act → World → Prop} {S : World → Prop} {w : World} {q0 qc qk qt qp ql qn : Part}
    (hQp : ∀ c a (t : Nat) v w, Q (.panic c) (Act.put a (some t) v) w → Q (.panic c) a w) (hb : Below X w0 w) (g : G7 w X (.cells #[.int .i64 spin, .int .u64 (most : Int), .slice A n cc] 35) most D 0 false false false undef undef undef undef undef undef undef q0 qc qk qt qp ql qn)
    (hS : ∀ w' l, Parts w' X (blockP X (.cells #[.int .i64 spin, .int .u64 (most : Int), .slice A n cc] 35) :: l) → S w')
    (hclk : ∀ W, Below X w0 W → Calls Tryz.prog 25 #[.slice A n cc, .int .u64 (most : Int)] W (S3.RMade W 0 most (D.take 65536)))
    (hout : ∀ (w : World) (Bc Bk Bp Bl Bt Bn bc bk bt : Nat) (sc sk : Value) (own : Nat → Option S10.Role) (q0 : Part) (x20 : Value), Below X w0 w →
      Parts w X [blockP X (.cells #[.int .i64 spin, .int .u64 (most : Int), .slice A n cc] 35), q0, rcellsP bc Bc sc L02 0 0 0 0 0, rclockP bk Bk 0 most sk (D.take 65536), rtablesP bt own (.pointer (some ⟨Bt, 0, none⟩)) (S10.M0 0), blockP Bp (.cells Tryz.zeroCells84 84), blockP Bl (.cells Tryz.zeroCells89 89), blockP Bn (.cells #[.slice none 0 0] 93)] →
      Q .normal (F7 spin most n cc A X (.pointer (some ⟨w.heap.size, 0, none⟩)) x20 (.pointer (some ⟨Bc, 0, none⟩)) (.pointer (some ⟨Bk, 0, none⟩)) (.pointer (some ⟨Bp, 0, none⟩)) (.pointer (some ⟨Bl, 0, none⟩)) (.pointer (some ⟨Bt, 0, none⟩)) (.pointer (some ⟨Bn, 0, none⟩)) (.agg (wcells (.pointer (some ⟨Bc, 0, none⟩)) (.pointer (some ⟨Bk, 0, none⟩)) (.pointer (some ⟨Bp, 0, none⟩)) (.pointer (some ⟨Bl, 0, none⟩)) (.pointer (some ⟨Bt, 0, none⟩)) (.pointer (some ⟨Bn, 0, none⟩)) spin)) (.pointer (some ⟨w.heap.size, 0, none⟩))) (w.alloc (.cells (wcells (.pointer (some ⟨Bc, 0, none⟩)) (.pointer (some ⟨Bk, 0, none⟩)) (.pointer (some ⟨Bp, 0, none⟩)) (.pointer (some ⟨Bl, 0, none⟩)) (.pointer (some ⟨Bt, 0, none⟩)) (.pointer (some ⟨Bn, 0, none⟩)) spin) 55)))
    (fuel : Nat) (hf : openN (L7 0 false false false) ≤ fuel) : wpAnyH Tryz.prog .any R7 Q S fuel (L7 0 false false false) (F7 spin most n cc A X undef undef undef undef undef undef undef undef undef undef) w := by
  refine wpAnyH_inv2 (I7 spin most n cc A X D w0) (fun fuel L a w hI hf => ?_) fuel _ _ w hf ⟨0, false, false, false, _, _, _, _, _, _, _, _, _, _, _, _, _, _, by omega, rfl, rfl, hb, g⟩
  obtain ⟨c, b0, b1, b2, x20, x21, x26, x28, x30, x31, x33, q0, qc, qk, qt, qp, ql, qn, hc4, rfl, rfl, hb, g⟩ := hI
  by_cases hfin : c = 4 ∧ b0 = true ∧ b1 = true ∧ b2 = true
  · obtain ⟨rfl, rfl, rfl, rfl⟩ := hfin
    left
    obtain ⟨bc, Bc, sc, rfl, rfl⟩ : ∃ b B s, x21 = .pointer (some ⟨B, 0, none⟩) ∧ qc = rcellsP b B s L02 0 0 0 0 0 := g.hc
    obtain ⟨bk, Bk, sk, rfl, rfl⟩ : ∃ b B s, x26 = .pointer (some ⟨B, 0, none⟩) ∧ qk = rclockP b B 0 most s (D.take 65536) := g.hk
    obtain ⟨bt, own, rfl⟩ : ∃ b own, qt = rtablesP b own x31 (S10.M0 0) := g.ht
    obtain ⟨Bp, rfl, rfl⟩ : ∃ B, x28 = .pointer (some ⟨B, 0, none⟩) ∧ qp = blockP B (.cells Tryz.zeroCells84 84) := g.hp
    obtain ⟨Bl, rfl, rfl⟩ : ∃ B, x30 = .pointer (some ⟨B, 0, none⟩) ∧ ql = blockP B (.cells Tryz.zeroCells89 89) := g.hl
    obtain ⟨Bn, rfl, rfl⟩ : ∃ B, x33 = .pointer (some ⟨B, 0, none⟩) ∧ qn = blockP B (.cells #[.slice none 0 0] 93) := g.hn
    obtain ⟨Bt, rfl⟩ : ∃ B, x31 = .pointer (some ⟨B, 0, none⟩) := by
      have : S10.Rt w bt own x31 (S10.M0 0) := g.ps.ok 4 _ rfl
      obtain ⟨rb, Q', T', V', h⟩ := this
      exact ⟨rb, h.hs⟩
    have h3 : openN (L7 4 true true true) = 3 := rfl
    obtain ⟨m, rfl⟩ : ∃ m, fuel = m + 3 := ⟨fuel - 3, by omega⟩
    exact fin7 hQp (hS _ _ g.ps) (hS _ _ (g.ps.new (below1 _ _))) (hout w Bc Bk Bp Bl Bt Bn bc bk bt sc sk own q0 x20 hb g.ps) m
  · right
    rw [ready7 c b0 b1 b2 hc4]
    refine ⟨fun e => ?_, fun i hi => ?_⟩
    · have h : c = 0 ∨ c = 1 ∨ c = 2 ∨ c = 3 ∨ c = 4 := by omega
      rcases h with rfl | rfl | rfl | rfl | rfl <;> simp at e
      obtain ⟨e0, e1, e2⟩ := e
      cases b0 <;> cases b1 <;> cases b2 <;> simp at e0 e1 e2 hfin
    · simp only [List.mem_append] at hi
      rcases hi with ((((((hi | hi) | hi) | hi) | hi) | hi) | hi) | hi
      · split at hi
        · rename_i hc; subst hc; simp at hi; subst hi; exact step1 hb g hS
        · cases hi
      · split at hi
        · rename_i hc; subst hc; simp at hi; subst hi; exact step2 hb g hS
        · cases hi
      · split at hi
        · rename_i hc; subst hc; simp at hi; subst hi; exact step7 hb g hS hclk
        · cases hi
      · cases b0
        · simp at hi; subst hi; exact step9 hc4 hb g hS
        · cases hi
      · cases b1
        · simp at hi; subst hi; exact step11 hc4 hb g hS
        · cases hi
      · split at hi
        · rename_i hc; subst hc; simp at hi; subst hi; exact step12 hb g hS
        · cases hi
      · cases b2
        · simp at hi; subst hi; exact step14 hc4 hb g hS
        · cases hi
      · rw [if_neg hfin] at hi; cases hi
end
end Go.Proofs.YthafnphpcdbnlaaGreatDoor.S12
