/- Texts of this seat, one behind the other. -/
import Derived.Test.YtdodloannlfnlaaGreatE23
set_option linter.unusedVariables false
set_option linter.unusedSimpArgs false
namespace Go.Proofs.YtdodloannlfnlaaGreat.S12
open Go.Proofs.YtdodloannlfnlaaGreat Go.Proofs.YtdodloannlfnlaaGreat.S11
open Go.RowKit

section
variable {spin : Int} {most n cc : Nat} {A : Option Addr} {X : Nat} {D : List Nat} {w0 : World}
def I7 (spin : Int) (most n cc : Nat) (A : Option Addr) (X : Nat) (D : List Nat) (w0 : World) (L : Array Bool) (a : Act) (w : World) : Prop :=
  ∃ (c : Nat) (b0 b1 b2 : Bool) (x20 x21 x26 x28 x30 x31 x33 : Value) (q0 qc qk qt qp ql qn : Part), c ≤ 4 ∧ L = L7 c b0 b1 b2 ∧ a = F7 spin most n cc A X undef x20 x21 x26 x28 x30 x31 x33 undef undef ∧ Below X w0 w ∧ G7 w X (.cells #[.int .i64 spin, .int .u64 (most : Int), .slice A n cc] 48) most D c b0 b1 b2 x20 x21 x26 x28 x30 x31 x33 q0 qc qk qt qp ql qn
set_option maxHeartbeats 4000000 in
set_option maxRecDepth 100000 in
theorem step1 {Q : Exit → Act → World → Prop} {S : World → Prop} {w : World} {b0 b1 b2 : Bool} {x20 x21 x26 x28 x30 x31 x33 : Value} {q0 qc qk qt qp ql qn : Part}
    (hb : Below X w0 w) (g : G7 w X (.cells #[.int .i64 spin, .int .u64 (most : Int), .slice A n cc] 48) most D 0 b0 b1 b2 x20 x21 x26 x28 x30 x31 x33 q0 qc qk qt qp ql qn)
    (hS : ∀ w' l, Parts w' X (blockP X (.cells #[.int .i64 spin, .int .u64 (most : Int), .slice A n cc] 48) :: l) → S w') :
    wpOp Tryz.prog R7 Q 1 (fun a' w' => S w' ∧ I7 spin most n cc A X D w0 ((L7 0 b0 b1 b2).setIfInBounds 1 true) a' w') (F7 spin most n cc A X undef x20 x21 x26 x28 x30 x31 x33 undef undef) w := by
  have hq : q0 = emptyP := g.h0
  subst hq
  have hP := g.ps.fill (i := 1) rfl (blockP w.heap.size wordsO) (below1 w wordsO) (heap_alloc_new w _) (fun k e => Nat.le_of_eq e.symm)
  have hb' : Below X w0 (w.alloc wordsO) := hb.alloc g.ps.size _
  have hfin : S (w.alloc wordsO) ∧ I7 spin most n cc A X D w0 ((L7 0 b0 b1 b2).setIfInBounds 1 true) (F7 spin most n cc A X undef (.slice (some ⟨w.heap.size, 0, none⟩) 1 1) x21 x26 x28 x30 x31 x33 undef undef) (w.alloc wordsO) :=
    ⟨hS _ _ hP, 1, b0, b1, b2, _, _, _, _, _, _, _, _, _, _, _, _, _, _, by omega, set1 .., rfl, hb', ⟨hP, ⟨_, rfl, rfl⟩, g.hc, g.hk, g.ht, g.hp, g.hl, g.hn⟩⟩
  have HF := Lib.hid hfin
  clear hfin hP hb' hS hb g
  refine wpOp_step (o := ({ dst := some 20, op := Op.buildSlice 125 1 #[(0, Operand.tmp 19)], type := 125, pos := "ref.go:40", after := #[{ on := 0, ground := Ground.data }], guard := none } : Oper)) rfl (fun Kq hKq => ?_)
  have HK := Lib.hid hKq
  clear hKq
  unfold F7
  go_simp
  exact HK.out _ _ HF.out
set_option maxHeartbeats 4000000 in
set_option maxRecDepth 100000 in
theorem step9 {Q : Exit → Act → World → Prop} {S : World → Prop} {w : World} {c : Nat} (hc4 : c ≤ 4) {b1 b2 : Bool} {x20 x21 x26 x28 x30 x31 x33 : Value} {q0 qc qk qt qp ql qn : Part}
    (hb : Below X w0 w) (g : G7 w X (.cells #[.int .i64 spin, .int .u64 (most : Int), .slice A n cc] 48) most D c false b1 b2 x20 x21 x26 x28 x30 x31 x33 q0 qc qk qt qp ql qn)
    (hS : ∀ w' l, Parts w' X (blockP X (.cells #[.int .i64 spin, .int .u64 (most : Int), .slice A n cc] 48) :: l) → S w') :
    wpOp Tryz.prog R7 Q 9 (fun a' w' => S w' ∧ I7 spin most n cc A X D w0 ((L7 c false b1 b2).setIfInBounds 9 true) a' w') (F7 spin most n cc A X undef x20 x21 x26 x28 x30 x31 x33 undef undef) w := by
  have hq : qp = emptyP := g.hp
  subst hq
  have hP := g.ps.fill (i := 5) rfl (blockP w.heap.size (.cells Tryz.zeroCells113 113)) (below1 w (.cells Tryz.zeroCells113 113)) (heap_alloc_new w _) (fun k e => Nat.le_of_eq e.symm)
  have hb' : Below X w0 (w.alloc (.cells Tryz.zeroCells113 113)) := hb.alloc g.ps.size _
  have hfin : S (w.alloc (.cells Tryz.zeroCells113 113)) ∧ I7 spin most n cc A X D w0 ((L7 c false b1 b2).setIfInBounds 9 true) (F7 spin most n cc A X undef x20 x21 x26 (.pointer (some ⟨w.heap.size, 0, none⟩)) x30 x31 x33 undef undef) (w.alloc (.cells Tryz.zeroCells113 113)) :=
    ⟨hS _ _ hP, c, true, b1, b2, _, _, _, _, _, _, _, _, _, _, _, _, _, _, hc4, set9 .., rfl, hb', ⟨hP, g.h0, g.hc, g.hk, g.ht, ⟨_, rfl, rfl⟩, g.hl, g.hn⟩⟩
  have HF := Lib.hid hfin
  clear hfin hP hb' hS hb g
  refine wpOp_step (o := ({ dst := some 28, op := Op.box 113 (Operand.tmp 27), type := 63, pos := "ref.go:40", after := #[{ on := 8, ground := Ground.data }], guard := none } : Oper)) rfl (fun Kq hKq => ?_)
  have HK := Lib.hid hKq
  clear hKq
  unfold F7
  go_simp
  exact HK.out _ _ HF.out
set_option maxHeartbeats 4000000 in
set_option maxRecDepth 100000 in
theorem step11 {Q : Exit → Act → World → Prop} {S : World → Prop} {w : World} {c : Nat} (hc4 : c ≤ 4) {b0 b2 : Bool} {x20 x21 x26 x28 x30 x31 x33 : Value} {q0 qc qk qt qp ql qn : Part}
    (hb : Below X w0 w) (g : G7 w X (.cells #[.int .i64 spin, .int .u64 (most : Int), .slice A n cc] 48) most D c b0 false b2 x20 x21 x26 x28 x30 x31 x33 q0 qc qk qt qp ql qn)
    (hS : ∀ w' l, Parts w' X (blockP X (.cells #[.int .i64 spin, .int .u64 (most : Int), .slice A n cc] 48) :: l) → S w') :
    wpOp Tryz.prog R7 Q 11 (fun a' w' => S w' ∧ I7 spin most n cc A X D w0 ((L7 c b0 false b2).setIfInBounds 11 true) a' w') (F7 spin most n cc A X undef x20 x21 x26 x28 x30 x31 x33 undef undef) w := by
  have hq : ql = emptyP := g.hl
  subst hq
  have hP := g.ps.fill (i := 6) rfl (blockP w.heap.size (.cells Tryz.zeroCells130 130)) (below1 w (.cells Tryz.zeroCells130 130)) (heap_alloc_new w _) (fun k e => Nat.le_of_eq e.symm)
  have hb' : Below X w0 (w.alloc (.cells Tryz.zeroCells130 130)) := hb.alloc g.ps.size _
  have hfin : S (w.alloc (.cells Tryz.zeroCells130 130)) ∧ I7 spin most n cc A X D w0 ((L7 c b0 false b2).setIfInBounds 11 true) (F7 spin most n cc A X undef x20 x21 x26 x28 (.pointer (some ⟨w.heap.size, 0, none⟩)) x31 x33 undef undef) (w.alloc (.cells Tryz.zeroCells130 130)) :=
    ⟨hS _ _ hP, c, b0, true, b2, _, _, _, _, _, _, _, _, _, _, _, _, _, _, hc4, set11 .., rfl, hb', ⟨hP, g.h0, g.hc, g.hk, g.ht, g.hp, ⟨_, rfl, rfl⟩, g.hn⟩⟩
  have HF := Lib.hid hfin
  clear hfin hP hb' hS hb g
  refine wpOp_step (o := ({ dst := some 30, op := Op.box 130 (Operand.tmp 29), type := 64, pos := "ref.go:40", after := #[{ on := 10, ground := Ground.data }], guard := none } : Oper)) rfl (fun Kq hKq => ?_)
  have HK := Lib.hid hKq
  clear hKq
  unfold F7
  go_simp
  exact HK.out _ _ HF.out
set_option maxHeartbeats 4000000 in
set_option maxRecDepth 100000 in
theorem step14 {Q : Exit → Act → World → Prop} {S : World → Prop} {w : World} {c : Nat} (hc4 : c ≤ 4) {b0 b1 : Bool} {x20 x21 x26 x28 x30 x31 x33 : Value} {q0 qc qk qt qp ql qn : Part}
    (hb : Below X w0 w) (g : G7 w X (.cells #[.int .i64 spin, .int .u64 (most : Int), .slice A n cc] 48) most D c b0 b1 false x20 x21 x26 x28 x30 x31 x33 q0 qc qk qt qp ql qn)
    (hS : ∀ w' l, Parts w' X (blockP X (.cells #[.int .i64 spin, .int .u64 (most : Int), .slice A n cc] 48) :: l) → S w') :
    wpOp Tryz.prog R7 Q 14 (fun a' w' => S w' ∧ I7 spin most n cc A X D w0 ((L7 c b0 b1 false).setIfInBounds 14 true) a' w') (F7 spin most n cc A X undef x20 x21 x26 x28 x30 x31 x33 undef undef) w := by
  have hq : qn = emptyP := g.hn
  subst hq
  have hP := g.ps.fill (i := 7) rfl (blockP w.heap.size (.cells #[.slice none 0 0] 104)) (below1 w (.cells #[.slice none 0 0] 104)) (heap_alloc_new w _) (fun k e => Nat.le_of_eq e.symm)
  have hb' : Below X w0 (w.alloc (.cells #[.slice none 0 0] 104)) := hb.alloc g.ps.size _
  have hfin : S (w.alloc (.cells #[.slice none 0 0] 104)) ∧ I7 spin most n cc A X D w0 ((L7 c b0 b1 false).setIfInBounds 14 true) (F7 spin most n cc A X undef x20 x21 x26 x28 x30 x31 (.pointer (some ⟨w.heap.size, 0, none⟩)) undef undef) (w.alloc (.cells #[.slice none 0 0] 104)) :=
    ⟨hS _ _ hP, c, b0, b1, true, _, _, _, _, _, _, _, _, _, _, _, _, _, _, hc4, set14 .., rfl, hb', ⟨hP, g.h0, g.hc, g.hk, g.ht, g.hp, g.hl, ⟨_, rfl, rfl⟩⟩⟩
  have HF := Lib.hid hfin
  clear hfin hP hb' hS hb g
  refine wpOp_step (o := ({ dst := some 33, op := Op.box 104 (Operand.tmp 32), type := 66, pos := "ref.go:40", after := #[{ on := 13, ground := Ground.data }], guard := none } : Oper)) rfl (fun Kq hKq => ?_)
  have HK := Lib.hid hKq
  clear hKq
  unfold F7
  go_simp
  exact HK.out _ _ HF.out
set_option maxHeartbeats 4000000 in
set_option maxRecDepth 100000 in
theorem step2 {Q : Exit → Act → World → Prop} {S : World → Prop} {w : World} {b0 b1 b2 : Bool} {x20 x21 x26 x28 x30 x31 x33 : Value} {q0 qc qk qt qp ql qn : Part}
    (hb : Below X w0 w) (g : G7 w X (.cells #[.int .i64 spin, .int .u64 (most : Int), .slice A n cc] 48) most D 1 b0 b1 b2 x20 x21 x26 x28 x30 x31 x33 q0 qc qk qt qp ql qn)
    (hS : ∀ w' l, Parts w' X (blockP X (.cells #[.int .i64 spin, .int .u64 (most : Int), .slice A n cc] 48) :: l) → S w') :
    wpOp Tryz.prog R7 Q 2 (fun a' w' => S w' ∧ I7 spin most n cc A X D w0 ((L7 1 b0 b1 b2).setIfInBounds 2 true) a' w') (F7 spin most n cc A X undef x20 x21 x26 x28 x30 x31 x33 undef undef) w := by
  have hq : qc = emptyP := g.hc
  subst hq
  obtain ⟨B0, hx, hq0⟩ : ∃ B, x20 = .slice (some ⟨B, 0, none⟩) 1 1 ∧ q0 = blockP B wordsO := g.h0
  subst hx
  have hW : w.heap[B0]? = some wordsO := by have := g.ps.ok 1 q0 rfl; rw [hq0] at this; exact this
  have hlt : B0 < w.heap.size := (Array.getElem?_eq_some_iff.1 hW).1
  have hin : S2.WIn w w.heap.size (some ⟨B0, 0, none⟩) 1 (fun _ => 0) (fun _ => 2) := fun _ => ⟨B0, 0, rfl, hlt, fun i hi => by
    obtain rfl : i = 0 := by omega
    exact ⟨cell_row hW 0, cell_row hW 1⟩⟩
  have hcall := S2.rnew_any (some ⟨B0, 0, none⟩) 1 1 (fun _ => 0) (fun _ => 2) (by omega) (fun i _ => ⟨by simp, by simp⟩) w hin
  have HC := Lib.hid hcall
  clear hcall hin hlt hW
  have hfin : ∀ w' (b B : Nat) (s : Value), Below w.heap.size w w' → (rcellsP b B s L02 0 0 0 0 0).ok w' → (∀ k, (rcellsP b B s L02 0 0 0 0 0).fp k → w.heap.size ≤ k) → S w' ∧ I7 spin most n cc A X D w0 ((L7 1 b0 b1 b2).setIfInBounds 2 true) (F7 spin most n cc A X undef (.slice (some ⟨B0, 0, none⟩) 1 1) (.pointer (some ⟨B, 0, none⟩)) x26 x28 x30 x31 x33 undef undef) w' := fun w' b B s hbw hok hfp => by
    have hP := g.ps.fill (i := 2) rfl (rcellsP b B s L02 0 0 0 0 0) hbw hok hfp
    exact ⟨hS _ _ hP, 2, b0, b1, b2, _, _, _, _, _, _, _, _, _, _, _, _, _, _, by omega, set2 .., rfl, hb.trans (hbw.mono g.ps.size), ⟨hP, g.h0, ⟨_, _, _, rfl, rfl⟩, g.hk, g.ht, g.hp, g.hl, g.hn⟩⟩
  have HF := Lib.hid hfin
  clear hfin hS hb g
  refine wpOp_step (o := ({ dst := some 21, op := Op.call { callee := Callee.value (Operand.func 37), args := #[Operand.tmp 20], argTypes := #[125] }, type := 61, pos := "ref.go:40", after := #[{ on := 1, ground := Ground.data }], guard := none } : Oper)) rfl (fun Kq hKq => ?_)
  have HK := Lib.hid hKq
  clear hKq
  unfold F7
  go_simp
  refine HC.out.mono ?_
  rintro e w1 ⟨R, s, rfl, hR, hr, hbw⟩
  refine HK.out _ _ (HF.out w1 w.heap.size R s hbw hr (fun k e => ?_))
  rcases e with e | e
  · omega
  · exact (hr.own.lt k e).1
set_option maxHeartbeats 4000000 in
set_option maxRecDepth 100000 in
theorem step7 {Q : Exit → Act → World → Prop} {S : World → Prop} {w : World} {b0 b1 b2 : Bool} {x20 x21 x26 x28 x30 x31 x33 : Value} {q0 qc qk qt qp ql qn : Part}
    (hb : Below X w0 w) (g : G7 w X (.cells #[.int .i64 spin, .int .u64 (most : Int), .slice A n cc] 48) most D 2 b0 b1 b2 x20 x21 x26 x28 x30 x31 x33 q0 qc qk qt qp ql qn)
    (hS : ∀ w' l, Parts w' X (blockP X (.cells #[.int .i64 spin, .int .u64 (most : Int), .slice A n cc] 48) :: l) → S w')
    (hclk : ∀ W, Below X w0 W → Calls Tryz.prog 38 #[.slice A n cc, .int .u64 (most : Int)] W (S3.RMade W 0 most (D.take 65536))) :
    wpOp Tryz.prog R7 Q 7 (fun a' w' => S w' ∧ I7 spin most n cc A X D w0 ((L7 2 b0 b1 b2).setIfInBounds 7 true) a' w') (F7 spin most n cc A X undef x20 x21 x26 x28 x30 x31 x33 undef undef) w := by
  have hq : qk = emptyP := g.hk
  subst hq
  have hcall := hclk w hb
  have HC := Lib.hid hcall
  clear hcall hclk
  have hfin : ∀ w' (b B : Nat) (s : Value), Below w.heap.size w w' → (rclockP b B 0 most s (D.take 65536)).ok w' → (∀ k, (rclockP b B 0 most s (D.take 65536)).fp k → w.heap.size ≤ k) → S w' ∧ I7 spin most n cc A X D w0 ((L7 2 b0 b1 b2).setIfInBounds 7 true) (F7 spin most n cc A X undef x20 x21 (.pointer (some ⟨B, 0, none⟩)) x28 x30 x31 x33 undef undef) w' := fun w' b B s hbw hok hfp => by
    have hP := g.ps.fill (i := 3) rfl (rclockP b B 0 most s (D.take 65536)) hbw hok hfp
    exact ⟨hS _ _ hP, 3, b0, b1, b2, _, _, _, _, _, _, _, _, _, _, _, _, _, _, by omega, set7 .., rfl, hb.trans (hbw.mono g.ps.size), ⟨hP, g.h0, g.hc, ⟨_, _, _, rfl, rfl⟩, g.ht, g.hp, g.hl, g.hn⟩⟩
  have HF := Lib.hid hfin
  clear hfin hS hb g
  refine wpOp_step (o := ({ dst := some 26, op := Op.call { callee := Callee.value (Operand.func 38), args := #[Operand.tmp 23, Operand.tmp 25], argTypes := #[28, 27] }, type := 62, pos := "ref.go:40", after := #[{ on := 4, ground := Ground.data }, { on := 6, ground := Ground.data }, { on := 2, ground := Ground.chain }], guard := none } : Oper)) rfl (fun Kq hKq => ?_)
  have HK := Lib.hid hKq
  clear hKq
  unfold F7
  go_simp
  refine HC.out.mono ?_
  rintro e w1 ⟨R, s, rfl, hR, hr, hbw⟩
  refine HK.out _ _ (HF.out w1 w.heap.size R s hbw hr (fun k e => ?_))
  rcases e with e | e
  · omega
  · exact (hr.own.lt k e).1
set_option maxHeartbeats 4000000 in
set_option maxRecDepth 100000 in
theorem step12 {Q : Exit → Act → World → Prop} {S : World → Prop} {w : World} {b0 b1 b2 : Bool} {x20 x21 x26 x28 x30 x31 x33 : Value} {q0 qc qk qt qp ql qn : Part}
    (hb : Below X w0 w) (g : G7 w X (.cells #[.int .i64 spin, .int .u64 (most : Int), .slice A n cc] 48) most D 3 b0 b1 b2 x20 x21 x26 x28 x30 x31 x33 q0 qc qk qt qp ql qn)
    (hS : ∀ w' l, Parts w' X (blockP X (.cells #[.int .i64 spin, .int .u64 (most : Int), .slice A n cc] 48) :: l) → S w') :
    wpOp Tryz.prog R7 Q 12 (fun a' w' => S w' ∧ I7 spin most n cc A X D w0 ((L7 3 b0 b1 b2).setIfInBounds 12 true) a' w') (F7 spin most n cc A X undef x20 x21 x26 x28 x30 x31 x33 undef undef) w := by
  have hq : qt = emptyP := g.ht
  subst hq
  have hcall := S10.rnew_any 0 w
  have HC := Lib.hid hcall
  clear hcall
  have hfin : ∀ w' (x : Value) (b : Nat) (own : Nat → Option S10.Role), Below w.heap.size w w' → (rtablesP b own x (S10.M0 0)).ok w' → (∀ k, (rtablesP b own x (S10.M0 0)).fp k → w.heap.size ≤ k) → S w' ∧ I7 spin most n cc A X D w0 ((L7 3 b0 b1 b2).setIfInBounds 12 true) (F7 spin most n cc A X undef x20 x21 x26 x28 x30 (x) x33 undef undef) w' := fun w' x b own hbw hok hfp => by
    have hP := g.ps.fill (i := 4) rfl (rtablesP b own x (S10.M0 0)) hbw hok hfp
    exact ⟨hS _ _ hP, 4, b0, b1, b2, _, _, _, _, _, _, _, _, _, _, _, _, _, _, by omega, set12 .., rfl, hb.trans (hbw.mono g.ps.size), ⟨hP, g.h0, g.hc, g.hk, ⟨_, _, rfl⟩, g.hp, g.hl, g.hn⟩⟩
  have HF := Lib.hid hfin
  clear hfin hS hb g
  refine wpOp_step (o := ({ dst := some 31, op := Op.call { callee := Callee.value (Operand.func 39), args := #[Operand.const (Value.int IntKind.u64 0)], argTypes := #[27] }, type := 65, pos := "ref.go:40", after := #[{ on := 7, ground := Ground.chain }], guard := none } : Oper)) rfl (fun Kq hKq => ?_)
  have HK := Lib.hid hKq
  clear hKq
  unfold F7
  go_simp
  refine HC.out.mono ?_
  rintro e w1 ⟨s, own, rfl, hr, hbw⟩
  refine HK.out _ _ (HF.out w1 s w.heap.size own hbw hr (fun k e => (hr.fp e).1))
end
end Go.Proofs.YtdodloannlfnlaaGreat.S12
namespace Go.Proofs.YtdodloannlfnlaaGreat.S12
open Go.Proofs.YtdodloannlfnlaaGreat Go.Proofs.YtdodloannlfnlaaGreat.S11
open Go.RowKit

noncomputable def wcells (a b c d e f : Value) (spin : Int) : Array Value := ((((((Tryz.zeroCells68.setIfInBounds 0 a).setIfInBounds 1 b).setIfInBounds 2 c).setIfInBounds 3 d).setIfInBounds 4 e).setIfInBounds 5 f).setIfInBounds 6 (.int .i64 spin)
section
variable {spin : Int} {most n cc : Nat} {A : Option Addr} {X : Nat} {D : List Nat} {w0 : World}
set_option maxHeartbeats 4000000 in
set_option maxRecDepth 100000 in
theorem fin7 {Q : Exit → Act → World → Prop} {S : World → Prop} {w : World} {Bc Bk Bp Bl Bn Bt : Nat} {x20 : Value}
    (hQp : ∀ c a (t : Nat) v w, Q (.panic c) (Act.put a (some t) v) w → Q (.panic c) a w) (hSw : S w) (hS1 : S (w.alloc (.cells (wcells (.pointer (some ⟨Bc, 0, none⟩)) (.pointer (some ⟨Bk, 0, none⟩)) (.pointer (some ⟨Bp, 0, none⟩)) (.pointer (some ⟨Bl, 0, none⟩)) (.pointer (some ⟨Bt, 0, none⟩)) (.pointer (some ⟨Bn, 0, none⟩)) spin) 68)))
    (hout : Q .normal (F7 spin most n cc A X (.pointer (some ⟨w.heap.size, 0, none⟩)) x20 (.pointer (some ⟨Bc, 0, none⟩)) (.pointer (some ⟨Bk, 0, none⟩)) (.pointer (some ⟨Bp, 0, none⟩)) (.pointer (some ⟨Bl, 0, none⟩)) (.pointer (some ⟨Bt, 0, none⟩)) (.pointer (some ⟨Bn, 0, none⟩)) (.agg (wcells (.pointer (some ⟨Bc, 0, none⟩)) (.pointer (some ⟨Bk, 0, none⟩)) (.pointer (some ⟨Bp, 0, none⟩)) (.pointer (some ⟨Bl, 0, none⟩)) (.pointer (some ⟨Bt, 0, none⟩)) (.pointer (some ⟨Bn, 0, none⟩)) spin)) (.pointer (some ⟨w.heap.size, 0, none⟩))) (w.alloc (.cells (wcells (.pointer (some ⟨Bc, 0, none⟩)) (.pointer (some ⟨Bk, 0, none⟩)) (.pointer (some ⟨Bp, 0, none⟩)) (.pointer (some ⟨Bl, 0, none⟩)) (.pointer (some ⟨Bt, 0, none⟩)) (.pointer (some ⟨Bn, 0, none⟩)) spin) 68)))
    (m : Nat) : wpAnyH Tryz.prog .any R7 Q S (m + 3) (L7 4 true true true) (F7 spin most n cc A X undef x20 (.pointer (some ⟨Bc, 0, none⟩)) (.pointer (some ⟨Bk, 0, none⟩)) (.pointer (some ⟨Bp, 0, none⟩)) (.pointer (some ⟨Bl, 0, none⟩)) (.pointer (some ⟨Bt, 0, none⟩)) (.pointer (some ⟨Bn, 0, none⟩)) undef undef) w := by
  unfold wcells at hS1 hout
  unfold F7 at hout
  have HS1 := Lib.hid hS1
  have HOUT := Lib.hid hout
  clear hS1 hout
  have hHeld := hSw
  unfold F7 R7 L7
  refine wpAnyH_take (i := 17) (oi := ({ dst := some 36, op := Op.build 68 #[(0, Operand.tmp 21), (1, Operand.tmp 26), (2, Operand.tmp 28), (3, Operand.tmp 30), (4, Operand.tmp 31), (5, Operand.tmp 33), (6, Operand.tmp 35)], type := 68, pos := "ref.go:40", after := #[{ on := 2, ground := Ground.data }, { on := 7, ground := Ground.data }, { on := 9, ground := Ground.data }, { on := 11, ground := Ground.data }, { on := 12, ground := Ground.data }, { on := 14, ground := Ground.data }, { on := 16, ground := Ground.data }], guard := none } : Oper)) (v := ?vz17) rfl (by kernel_rfl) (by kernel_rfl) (by kernel_rfl) (fun c a w h => hQp c a _ _ w h) (Or.inl ⟨by rfl, fun w hSw => ?hyz17⟩) (by assumption) ?rz17
  case hyz17 => (try dsimp only at hSw); go_simp; (try with_reducible rfl)
  (try simp only [Act.put, List.setIfInBounds_toArray, List.set_cons_zero, List.set_cons_succ])
  refine wpAnyH_ready (rs := [18]) (by kernel_rfl) (by simp) ?_
  refine AllReadyH.cons (o := ({ dst := some 37, op := Op.box 68 (Operand.tmp 36), type := 23, pos := "ref.go:40", after := #[{ on := 17, ground := Ground.data }], guard := none } : Oper)) rfl (fun Kq hKq => ?_) AllReadyH.nil
  go_simp
  refine hKq.out _ _ ?_ (fun hHeld => ?_)
  · exact HS1.out
  clear hKq Kq
  (try simp only [Act.put, List.setIfInBounds_toArray, List.set_cons_zero, List.set_cons_succ])
  refine wpAnyH_take (i := 19) (oi := ({ dst := some 4, op := Op.assign (Operand.tmp 37), type := 23, pos := "ref.go:40", after := #[{ on := 18, ground := Ground.data }, { on := 12, ground := Ground.chain }, { on := 0, ground := Ground.phase }, { on := 1, ground := Ground.phase }, { on := 2, ground := Ground.phase }, { on := 3, ground := Ground.phase }, { on := 4, ground := Ground.phase }, { on := 5, ground := Ground.phase }, { on := 6, ground := Ground.phase }, { on := 7, ground := Ground.phase }, { on := 8, ground := Ground.phase }, { on := 9, ground := Ground.phase }, { on := 10, ground := Ground.phase }, { on := 11, ground := Ground.phase }, { on := 12, ground := Ground.phase }, { on := 13, ground := Ground.phase }, { on := 14, ground := Ground.phase }, { on := 15, ground := Ground.phase }, { on := 16, ground := Ground.phase }, { on := 17, ground := Ground.phase }, { on := 18, ground := Ground.phase }], guard := none } : Oper)) (v := ?vz19) rfl (by kernel_rfl) (by kernel_rfl) (by kernel_rfl) (fun c a w h => hQp c a _ _ w h) (Or.inl ⟨by rfl, fun w hSw => ?hyz19⟩) (by assumption) ?rz19
  case hyz19 => (try dsimp only at hSw); go_simp; (try with_reducible rfl)
  (try simp only [Act.put, List.setIfInBounds_toArray, List.set_cons_zero, List.set_cons_succ])
  refine wpAnyH_done (by kernel_rfl) ?_ _
  exact HOUT.out
theorem all7 {Q : Exit → Act → World → Prop} {S : World → Prop} {w : World} {q0 qc qk qt qp ql qn : Part}
    (hQp : ∀ c a (t : Nat) v w, Q (.panic c) (Act.put a (some t) v) w → Q (.panic c) a w) (hb : Below X w0 w) (g : G7 w X (.cells #[.int .i64 spin, .int .u64 (most : Int), .slice A n cc] 48) most D 0 false false false undef undef undef undef undef undef undef q0 qc qk qt qp ql qn)
    (hS : ∀ w' l, Parts w' X (blockP X (.cells #[.int .i64 spin, .int .u64 (most : Int), .slice A n cc] 48) :: l) → S w')
    (hclk : ∀ W, Below X w0 W → Calls Tryz.prog 38 #[.slice A n cc, .int .u64 (most : Int)] W (S3.RMade W 0 most (D.take 65536)))
    (hout : ∀ (w : World) (Bc Bk Bp Bl Bt Bn bc bk bt : Nat) (sc sk : Value) (own : Nat → Option S10.Role) (q0 : Part) (x20 : Value), Below X w0 w →
      Parts w X [blockP X (.cells #[.int .i64 spin, .int .u64 (most : Int), .slice A n cc] 48), q0, rcellsP bc Bc sc L02 0 0 0 0 0, rclockP bk Bk 0 most sk (D.take 65536), rtablesP bt own (.pointer (some ⟨Bt, 0, none⟩)) (S10.M0 0), blockP Bp (.cells Tryz.zeroCells113 113), blockP Bl (.cells Tryz.zeroCells130 130), blockP Bn (.cells #[.slice none 0 0] 104)] →
      Q .normal (F7 spin most n cc A X (.pointer (some ⟨w.heap.size, 0, none⟩)) x20 (.pointer (some ⟨Bc, 0, none⟩)) (.pointer (some ⟨Bk, 0, none⟩)) (.pointer (some ⟨Bp, 0, none⟩)) (.pointer (some ⟨Bl, 0, none⟩)) (.pointer (some ⟨Bt, 0, none⟩)) (.pointer (some ⟨Bn, 0, none⟩)) (.agg (wcells (.pointer (some ⟨Bc, 0, none⟩)) (.pointer (some ⟨Bk, 0, none⟩)) (.pointer (some ⟨Bp, 0, none⟩)) (.pointer (some ⟨Bl, 0, none⟩)) (.pointer (some ⟨Bt, 0, none⟩)) (.pointer (some ⟨Bn, 0, none⟩)) spin)) (.pointer (some ⟨w.heap.size, 0, none⟩))) (w.alloc (.cells (wcells (.pointer (some ⟨Bc, 0, none⟩)) (.pointer (some ⟨Bk, 0, none⟩)) (.pointer (some ⟨Bp, 0, none⟩)) (.pointer (some ⟨Bl, 0, none⟩)) (.pointer (some ⟨Bt, 0, none⟩)) (.pointer (some ⟨Bn, 0, none⟩)) spin) 68)))
    (fuel : Nat) (hf : openN (L7 0 false false false) ≤ fuel) : wpAnyH Tryz.prog .any R7 Q S fuel (L7 0 false false false) (F7 spin most n cc A X undef undef undef undef undef undef undef undef undef undef) w := by
  refine wpAnyH_inv2 (I7 spin most n cc A X D w0) (fun fuel L a w hI hf => ?_) fuel _ _ w hf ⟨0, false, false, false, _, _, _, _, _, _, _, _, _, _, _, _, _, _, by omega, rfl, rfl, hb, g⟩
  obtain ⟨c, b0, b1, b2, x20, x21, x26, x28, x30, x31, x33, q0, qc, qk, qt, qp, ql, qn, hc4, rfl, rfl, hb, g⟩ := hI
  by_cases hfin : c = 4 ∧ b0 = true ∧ b1 = true ∧ b2 = true
  · obtain ⟨rfl, rfl, rfl, rfl⟩ := hfin
    left
    obtain ⟨bc, Bc, sc, rfl, rfl⟩ : ∃ b B s, x21 = .pointer (some ⟨B, 0, none⟩) ∧ qc = rcellsP b B s L02 0 0 0 0 0 := g.hc
    obtain ⟨bk, Bk, sk, rfl, rfl⟩ : ∃ b B s, x26 = .pointer (some ⟨B, 0, none⟩) ∧ qk = rclockP b B 0 most s (D.take 65536) := g.hk
    obtain ⟨bt, own, rfl⟩ : ∃ b own, qt = rtablesP b own x31 (S10.M0 0) := g.ht
    obtain ⟨Bp, rfl, rfl⟩ : ∃ B, x28 = .pointer (some ⟨B, 0, none⟩) ∧ qp = blockP B (.cells Tryz.zeroCells113 113) := g.hp
    obtain ⟨Bl, rfl, rfl⟩ : ∃ B, x30 = .pointer (some ⟨B, 0, none⟩) ∧ ql = blockP B (.cells Tryz.zeroCells130 130) := g.hl
    obtain ⟨Bn, rfl, rfl⟩ : ∃ B, x33 = .pointer (some ⟨B, 0, none⟩) ∧ qn = blockP B (.cells #[.slice none 0 0] 104) := g.hn
    obtain ⟨Bt, rfl⟩ : ∃ B, x31 = .pointer (some ⟨B, 0, none⟩) := by
      have : S10.Rt w bt own x31 (S10.M0 0) := g.ps.ok 4 _ rfl
      obtain ⟨rb, Q', T', V', h⟩ := this
      exact ⟨rb, h.hs⟩
    have h3 : openN (L7 4 true true true) = 3 := rfl
    obtain ⟨m, rfl⟩ : ∃ m, fuel = m + 3 := ⟨fuel - 3, by omega⟩
    exact fin7 hQp (hS _ _ g.ps) (hS _ _ (g.ps.new (below1 _ _))) (hout w Bc Bk Bp Bl Bt Bn bc bk bt sc sk own q0 x20 hb g.ps) m
  · right
    rw [ready7 c b0 b1 b2 hc4]
    refine ⟨fun e => ?_, fun i hi => ?_⟩
    · have h : c = 0 ∨ c = 1 ∨ c = 2 ∨ c = 3 ∨ c = 4 := by omega
      rcases h with rfl | rfl | rfl | rfl | rfl <;> simp at e
      obtain ⟨e0, e1, e2⟩ := e
      cases b0 <;> cases b1 <;> cases b2 <;> simp at e0 e1 e2 hfin
    · simp only [List.mem_append] at hi
      rcases hi with ((((((hi | hi) | hi) | hi) | hi) | hi) | hi) | hi
      · split at hi
        · rename_i hc; subst hc; simp at hi; subst hi; exact step1 hb g hS
        · cases hi
      · split at hi
        · rename_i hc; subst hc; simp at hi; subst hi; exact step2 hb g hS
        · cases hi
      · split at hi
        · rename_i hc; subst hc; simp at hi; subst hi; exact step7 hb g hS hclk
        · cases hi
      · cases b0
        · simp at hi; subst hi; exact step9 hc4 hb g hS
        · cases hi
      · cases b1
        · simp at hi; subst hi; exact step11 hc4 hb g hS
        · cases hi
      · split at hi
        · rename_i hc; subst hc; simp at hi; subst hi; exact step12 hb g hS
        · cases hi
      · cases b2
        · simp at hi; subst hi; exact step14 hc4 hb g hS
        · cases hi
      · rw [if_neg hfin] at hi; cases hi
end
end Go.Proofs.YtdodloannlfnlaaGreat.S12
namespace Go.Proofs.YtdodloannlfnlaaGreat.S12
open Go.Proofs.YtdodloannlfnlaaGreat Go.Proofs.YtdodloannlfnlaaGreat.S11
open Go.RowKit

def RWorld (w w' : World) (spin : Int) (most : Nat) (D : List Nat) (Bw : Nat) : Prop :=
  ∃ (q : List Part) (Bc Bk Bp Bl Bt Bn bc bk bt : Nat) (sc sk : Value) (own : Nat → Option S10.Role),
    Parts w' w.heap.size (q ++ [rcellsP bc Bc sc L02 0 0 0 0 0, rclockP bk Bk 0 most sk (D.take 65536), rtablesP bt own (.pointer (some ⟨Bt, 0, none⟩)) (S10.M0 0), blockP Bp (.cells Tryz.zeroCells113 113), blockP Bl (.cells Tryz.zeroCells130 130), blockP Bn (.cells #[.slice none 0 0] 104), blockP Bw (.cells (wcells (.pointer (some ⟨Bc, 0, none⟩)) (.pointer (some ⟨Bk, 0, none⟩)) (.pointer (some ⟨Bp, 0, none⟩)) (.pointer (some ⟨Bl, 0, none⟩)) (.pointer (some ⟨Bt, 0, none⟩)) (.pointer (some ⟨Bn, 0, none⟩)) spin) 68)])
set_option maxHeartbeats 4000000 in
set_option maxRecDepth 100000 in
theorem rworld_any {w : World} (spin : Int) (most n c : Nat) (A : Option Addr) {D : List Nat} (hs : 0 ≤ spin ∧ spin ≤ 16) (hn : n ≤ 65536)
    (hclk : ∀ W, Below w.heap.size w W → Calls Tryz.prog 38 #[.slice A n c, .int .u64 (most : Int)] W (S3.RMade W 0 most (D.take 65536))) :
    Calls Tryz.prog 10 #[.agg #[.int .i64 spin, .int .u64 (most : Int), .slice A n c]] w fun e w' => ∃ Bw, e = .returned (.tuple #[.pointer (some ⟨Bw, 0, none⟩), .int .i64 0]) ∧ RWorld w w' spin most D Bw ∧ Below w.heap.size w w' := by
  have hnew := heap_alloc_new w (.cells #[.int .i64 spin, .int .u64 (most : Int), .slice A n c] 48)
  have c0 := cell_row hnew 0; have c1 := cell_row hnew 1; have c2 := cell_row hnew 2
  simp only [List.getElem?_toArray, List.getElem?_cons_zero, List.getElem?_cons_succ] at c0 c1 c2
  have h1 : ¬ spin < 0 := by omega
  have h2 : ¬ 16 < spin := by omega
  have h3 : ¬ (65536 : Int) < (n : Int) := by omega
  have hP0 := (parts_nil w).push (blockP w.heap.size (.cells #[.int .i64 spin, .int .u64 (most : Int), .slice A n c] 48)) (below1 w (.cells #[.int .i64 spin, .int .u64 (most : Int), .slice A n c] 48)) hnew (fun k e => Nat.le_of_eq e.symm)
  have hP : Parts (w.alloc (.cells #[.int .i64 spin, .int .u64 (most : Int), .slice A n c] 48)).drew w.heap.size [blockP w.heap.size (.cells #[.int .i64 spin, .int .u64 (most : Int), .slice A n c] 48), emptyP, emptyP, emptyP, emptyP, emptyP, emptyP, emptyP] := by
    refine ⟨hP0.drew.size, fun i p hp => ?_, fun i j p q hp hq hij k hk hk2 => ?_, fun i p hp k hk => ?_⟩
    · match i, hp with
      | 0, hp => exact hP0.drew.ok 0 p hp
      | 1, hp => injection hp with hp; subst hp; trivial
      | 2, hp => injection hp with hp; subst hp; trivial
      | 3, hp => injection hp with hp; subst hp; trivial
      | 4, hp => injection hp with hp; subst hp; trivial
      | 5, hp => injection hp with hp; subst hp; trivial
      | 6, hp => injection hp with hp; subst hp; trivial
      | 7, hp => injection hp with hp; subst hp; trivial
      | i + 8, hp => simp at hp
    · have hz : ∀ i p, [blockP w.heap.size (.cells #[.int .i64 spin, .int .u64 (most : Int), .slice A n c] 48), emptyP, emptyP, emptyP, emptyP, emptyP, emptyP, emptyP][i]? = some p → p.fp k → i = 0 := fun i p hp hk => by
        match i, hp with
        | 0, _ => rfl
        | 1, hp => injection hp with hp; subst hp; exact hk.elim
        | 2, hp => injection hp with hp; subst hp; exact hk.elim
        | 3, hp => injection hp with hp; subst hp; exact hk.elim
        | 4, hp => injection hp with hp; subst hp; exact hk.elim
        | 5, hp => injection hp with hp; subst hp; exact hk.elim
        | 6, hp => injection hp with hp; subst hp; exact hk.elim
        | 7, hp => injection hp with hp; subst hp; exact hk.elim
        | i + 8, hp => simp at hp
      exact hij ((hz i p hp hk).trans (hz j q hq hk2).symm)
    · match i, hp with
      | 0, hp => exact hP0.drew.low 0 p hp k hk
      | 1, hp => injection hp with hp; subst hp; exact hk.elim
      | 2, hp => injection hp with hp; subst hp; exact hk.elim
      | 3, hp => injection hp with hp; subst hp; exact hk.elim
      | 4, hp => injection hp with hp; subst hp; exact hk.elim
      | 5, hp => injection hp with hp; subst hp; exact hk.elim
      | 6, hp => injection hp with hp; subst hp; exact hk.elim
      | 7, hp => injection hp with hp; subst hp; exact hk.elim
      | i + 8, hp => simp at hp
  have HP := Lib.hid hP; have HCLK := Lib.hid hclk
  have HB0 : Hid (Below w.heap.size w (w.alloc (.cells #[.int .i64 spin, .int .u64 (most : Int), .slice A n c] 48))) := Lib.hid (below1 _ _)
  clear hnew hP0 hP hclk
  go_enter Tryz.func10, Tryz.ntmps10
  go_upto_region 3 with (fail)
  generalize hX : w.heap.size = X at *
  generalize w.alloc (.cells #[.int .i64 spin, .int .u64 (most : Int), .slice A n c] 48) = wb at *
  have HX := Lib.hid hX
  clear hX
  refine wp_region_held_drew (S := fun w' => w'.cell? ⟨X, 0, none⟩ = some (.int .i64 spin) ∧ w'.cell? ⟨X, 1, none⟩ = some (.int .u64 (most : Int)) ∧ w'.cell? ⟨X, 2, none⟩ = some (.slice A n c)) (by kernel_rfl) ?_ (fun hHeld => ?_)
  · exact ⟨c0, c1, c2⟩
  refine wpAnyH_take (i := 0) (oi := ({ dst := some 19, op := Op.build 124 #[(0, Operand.const (Value.int IntKind.u32 0)), (1, Operand.const (Value.int IntKind.u64 2))], type := 124, pos := "ref.go:40", after := #[], guard := none } : Oper)) (v := ?va0) rfl (by kernel_rfl) (by kernel_rfl) (by kernel_rfl) (fun _ _ _ h => h) (Or.inl ⟨by rfl, fun w hSw => ?hya0⟩) (by assumption) ?ra0
  case hya0 => (try dsimp only at hSw); go_simp; (try with_reducible rfl)
  (try simp only [Act.put, List.setIfInBounds_toArray, List.set_cons_zero, List.set_cons_succ])
  refine wpAnyH_take (i := 3) (oi := ({ dst := some 22, op := Op.fieldAddr 48 (Operand.tmp 1) 2, type := 0, pos := "ref.go:40", after := #[], guard := none } : Oper)) (v := ?va3) rfl (by kernel_rfl) (by kernel_rfl) (by kernel_rfl) (fun _ _ _ h => h) (Or.inl ⟨by rfl, fun w hSw => ?hya3⟩) (by assumption) ?ra3
  case hya3 => (try dsimp only at hSw); go_simp; (try with_reducible rfl)
  (try simp only [Act.put, List.setIfInBounds_toArray, List.set_cons_zero, List.set_cons_succ])
  refine wpAnyH_take (i := 4) (oi := ({ dst := some 23, op := Op.load 28 (Operand.tmp 22), type := 28, pos := "ref.go:40", after := #[{ on := 3, ground := Ground.data }], guard := none } : Oper)) (v := ?va4) rfl (by kernel_rfl) (by kernel_rfl) (by kernel_rfl) (fun _ _ _ h => h) (Or.inl ⟨by rfl, fun w hSw => ?hya4⟩) (by assumption) ?ra4
  case hya4 => (try dsimp only at hSw); go_simp; (try with_reducible rfl)
  (try simp only [Act.put, List.setIfInBounds_toArray, List.set_cons_zero, List.set_cons_succ])
  refine wpAnyH_take (i := 5) (oi := ({ dst := some 24, op := Op.fieldAddr 48 (Operand.tmp 1) 1, type := 0, pos := "ref.go:40", after := #[], guard := none } : Oper)) (v := ?va5) rfl (by kernel_rfl) (by kernel_rfl) (by kernel_rfl) (fun _ _ _ h => h) (Or.inl ⟨by rfl, fun w hSw => ?hya5⟩) (by assumption) ?ra5
  case hya5 => (try dsimp only at hSw); go_simp; (try with_reducible rfl)
  (try simp only [Act.put, List.setIfInBounds_toArray, List.set_cons_zero, List.set_cons_succ])
  refine wpAnyH_take (i := 6) (oi := ({ dst := some 25, op := Op.load 27 (Operand.tmp 24), type := 27, pos := "ref.go:40", after := #[{ on := 5, ground := Ground.data }], guard := none } : Oper)) (v := ?va6) rfl (by kernel_rfl) (by kernel_rfl) (by kernel_rfl) (fun _ _ _ h => h) (Or.inl ⟨by rfl, fun w hSw => ?hya6⟩) (by assumption) ?ra6
  case hya6 => (try dsimp only at hSw); go_simp; (try with_reducible rfl)
  (try simp only [Act.put, List.setIfInBounds_toArray, List.set_cons_zero, List.set_cons_succ])
  refine wpAnyH_take (i := 8) (oi := ({ dst := some 27, op := Op.build 113 #[], type := 113, pos := "ref.go:40", after := #[], guard := none } : Oper)) (v := ?va8) rfl (by kernel_rfl) (by kernel_rfl) (by kernel_rfl) (fun _ _ _ h => h) (Or.inl ⟨by rfl, fun w hSw => ?hya8⟩) (by assumption) ?ra8
  case hya8 => (try dsimp only at hSw); go_simp; (try with_reducible rfl)
  (try simp only [Act.put, List.setIfInBounds_toArray, List.set_cons_zero, List.set_cons_succ])
  refine wpAnyH_take (i := 10) (oi := ({ dst := some 29, op := Op.build 130 #[], type := 130, pos := "ref.go:40", after := #[], guard := none } : Oper)) (v := ?va10) rfl (by kernel_rfl) (by kernel_rfl) (by kernel_rfl) (fun _ _ _ h => h) (Or.inl ⟨by rfl, fun w hSw => ?hya10⟩) (by assumption) ?ra10
  case hya10 => (try dsimp only at hSw); go_simp; (try with_reducible rfl)
  (try simp only [Act.put, List.setIfInBounds_toArray, List.set_cons_zero, List.set_cons_succ])
  refine wpAnyH_take (i := 13) (oi := ({ dst := some 32, op := Op.build 104 #[], type := 104, pos := "ref.go:40", after := #[], guard := none } : Oper)) (v := ?va13) rfl (by kernel_rfl) (by kernel_rfl) (by kernel_rfl) (fun _ _ _ h => h) (Or.inl ⟨by rfl, fun w hSw => ?hya13⟩) (by assumption) ?ra13
  case hya13 => (try dsimp only at hSw); go_simp; (try with_reducible rfl)
  (try simp only [Act.put, List.setIfInBounds_toArray, List.set_cons_zero, List.set_cons_succ])
  refine wpAnyH_take (i := 15) (oi := ({ dst := some 34, op := Op.fieldAddr 48 (Operand.tmp 1) 0, type := 0, pos := "ref.go:40", after := #[], guard := none } : Oper)) (v := ?va15) rfl (by kernel_rfl) (by kernel_rfl) (by kernel_rfl) (fun _ _ _ h => h) (Or.inl ⟨by rfl, fun w hSw => ?hya15⟩) (by assumption) ?ra15
  case hya15 => (try dsimp only at hSw); go_simp; (try with_reducible rfl)
  (try simp only [Act.put, List.setIfInBounds_toArray, List.set_cons_zero, List.set_cons_succ])
  refine wpAnyH_take (i := 16) (oi := ({ dst := some 35, op := Op.load 3 (Operand.tmp 34), type := 3, pos := "ref.go:40", after := #[{ on := 15, ground := Ground.data }], guard := none } : Oper)) (v := ?va16) rfl (by kernel_rfl) (by kernel_rfl) (by kernel_rfl) (fun _ _ _ h => h) (Or.inl ⟨by rfl, fun w hSw => ?hya16⟩) (by assumption) ?ra16
  case hya16 => (try dsimp only at hSw); go_simp; (try with_reducible rfl)
  (try simp only [Act.put, List.setIfInBounds_toArray, List.set_cons_zero, List.set_cons_succ])
  clear hHeld c0 c1 c2 h1 h2 h3
  refine all7 (w0 := w) (D := D) (fun c a d v w h => h) HB0.out.drew ⟨HP.out, rfl, rfl, rfl, rfl, rfl, rfl, rfl⟩ (fun w' l hl => ?_) HCLK.out (fun wv Bc Bk Bp Bl Bt Bn bc bk bt sc sk own q0 x20 hb hp => ?_) _ (by decide)
  · have h0 : w'.heap[X]? = some (.cells #[.int .i64 spin, .int .u64 (most : Int), .slice A n c] 48) := hl.ok 0 _ rfl
    exact ⟨cell_row h0 0, cell_row h0 1, cell_row h0 2⟩
  · have hp2 := hp.push (blockP wv.heap.size (.cells (wcells (.pointer (some ⟨Bc, 0, none⟩)) (.pointer (some ⟨Bk, 0, none⟩)) (.pointer (some ⟨Bp, 0, none⟩)) (.pointer (some ⟨Bl, 0, none⟩)) (.pointer (some ⟨Bt, 0, none⟩)) (.pointer (some ⟨Bn, 0, none⟩)) spin) 68)) (below1 wv _) (heap_alloc_new _ _) (fun k e => Nat.le_of_eq e.symm)
    have hb2 : Below X w (wv.alloc (.cells (wcells (.pointer (some ⟨Bc, 0, none⟩)) (.pointer (some ⟨Bk, 0, none⟩)) (.pointer (some ⟨Bp, 0, none⟩)) (.pointer (some ⟨Bl, 0, none⟩)) (.pointer (some ⟨Bt, 0, none⟩)) (.pointer (some ⟨Bn, 0, none⟩)) spin) 68)) := hb.alloc hp.size _
    have HP2 := Lib.hid hp2; have HB2 := Lib.hid hb2
    clear hp hb hp2 hb2 HP HCLK HB0
    unfold F7
    generalize hWC : wcells (.pointer (some ⟨Bc, 0, none⟩)) (.pointer (some ⟨Bk, 0, none⟩)) (.pointer (some ⟨Bp, 0, none⟩)) (.pointer (some ⟨Bl, 0, none⟩)) (.pointer (some ⟨Bt, 0, none⟩)) (.pointer (some ⟨Bn, 0, none⟩)) spin = WC at *
    have HWC := Lib.hid hWC
    clear hWC
    go_wp2_with fail
    go_ret2
    refine ⟨wv.heap.size, rfl, ⟨[blockP X (.cells #[.int .i64 spin, .int .u64 (most : Int), .slice A n c] 48), q0], Bc, Bk, Bp, Bl, Bt, Bn, bc, bk, bt, sc, sk, own, ?_⟩, by rw [HX.out]; exact HB2.out⟩
    rw [HX.out, HWC.out]
    exact HP2.out
end Go.Proofs.YtdodloannlfnlaaGreat.S12
namespace Go.Proofs.YtdodloannlfnlaaGreat.S12
open Go.Proofs.YtdodloannlfnlaaGreat Go.Proofs.YtdodloannlfnlaaGreat.S11
open Go.RowKit

end Go.Proofs.YtdodloannlfnlaaGreat.S12
namespace Go.Proofs.YtdodloannlfnlaaGreat.S3
open Go.Proofs.YtdodloannlfnlaaGreat
open Go.RowKit

def OthC (w w' : World) (spin most : Int) (D : List Nat) (e : Ending) : Prop := ∃ A c, e = .returned (.agg #[.int .i64 spin, .int .u64 most, .slice A D.length c]) ∧ D.length ≤ c ∧ c ≤ 9223372036854775807 ∧ Row w' w.heap.size (.slice A D.length c) D ∧ Below w.heap.size w w'
set_option maxRecDepth 100000 in
set_option maxHeartbeats 4000000 in
theorem otherC_any {w : World} (spin most : Int) {b2 : Nat} {A : Option Addr} {D : List Nat} (c : Nat) (hr : Rd w b2 A D) (hb2 : b2 ≤ w.heap.size) (hl : D.length ≤ 3000000) :
    Calls Tryz.prog 11 #[.agg #[.int .i64 spin, .int .u64 most, .slice A D.length c]] w fun e w' => OthC w w' spin most D e := by
  have hbw : Below w.heap.size w ((w.alloc (.cells #[.int .i64 spin, .int .u64 most, .slice A D.length c] 30)).alloc (.cells #[.int .i64 0, .int .u64 0, .slice none 0 0] 48)) := ((Below.refl _ _).alloc (Nat.le_refl _) _).alloc (by simp) _
  have h0 := heap_alloc_new w (.cells #[.int .i64 spin, .int .u64 most, .slice A D.length c] 30)
  have h1 := heap_alloc_new (w.alloc (.cells #[.int .i64 spin, .int .u64 most, .slice A D.length c] 30)) (.cells #[.int .i64 0, .int .u64 0, .slice none 0 0] 48)
  have h0' : ((w.alloc (.cells #[.int .i64 spin, .int .u64 most, .slice A D.length c] 30)).alloc (.cells #[.int .i64 0, .int .u64 0, .slice none 0 0] 48)).heap[w.heap.size]? = _ := (((Below.refl _ (w.alloc (.cells #[.int .i64 spin, .int .u64 most, .slice A D.length c] 30))).alloc (Nat.le_refl _) (.cells #[.int .i64 0, .int .u64 0, .slice none 0 0] 48)).block w.heap.size (by simp)).trans h0
  obtain ⟨B0, hB0⟩ : ∃ B0, B0 = w.heap.size := ⟨_, rfl⟩
  have hs : (w.alloc (.cells #[.int .i64 spin, .int .u64 most, .slice A D.length c] 30)).heap.size = w.heap.size + 1 := by simp
  rw [hs] at h1
  have hlt : w.heap.size + 1 < ((w.alloc (.cells #[.int .i64 spin, .int .u64 most, .slice A D.length c] 30)).alloc (.cells #[.int .i64 0, .int .u64 0, .slice none 0 0] 48)).heap.size := (Array.getElem?_eq_some_iff.1 h1).1
  have HR := Lib.hid (hr.below hbw hb2); have HBW := Lib.hid hbw; have HL := Lib.hid hl; have HB2 := Lib.hid hb2
  have HLE : Hid (w.heap.size ≤ w.heap.size + 1) := Lib.hid (Nat.le_succ _)
  rw [← hB0] at h0' h1 hlt
  have H0 := Lib.hid h0'; have H1 := Lib.hid h1; have HLT := Lib.hid hlt; have HB0 := Lib.hid hB0
  have HFN : Hid (∀ (w4 : World) (A3 : Option Addr) (cap3 k : Nat), w.heap.size ≤ k → Row w4 k (.slice A3 D.length cap3) D → Below w.heap.size w w4 → OthC w w4 spin most D (.returned (.agg #[.int .i64 spin, .int .u64 most, .slice A3 D.length cap3]))) := Lib.hid (fun w4 A3 cap3 k hk hr4 hb4 => by
    obtain ⟨A', c', e1, e2, e3, e4, e5⟩ := hr4
    injection e1 with e1 _ e1'
    subst e1 e1'
    exact ⟨A3, cap3, rfl, e2, by unfold maxLen at e3; omega, ⟨A3, cap3, rfl, e2, e3, e4, fun ad ha => by
      obtain ⟨g, o, h1, h2, h3⟩ := e5 ad ha
      exact ⟨g, o, h1, by omega, h3⟩⟩, hb4⟩)
  have HSZ : Hid (w.heap.size ≤ ((w.alloc (.cells #[.int .i64 spin, .int .u64 most, .slice A D.length c] 30)).alloc (.cells #[.int .i64 0, .int .u64 0, .slice none 0 0] 48)).heap.size) := Lib.hid hbw.size
  clear hbw h0 h1 h0' hs hlt hr hb2 hl hB0
  go_enter Tryz.func11, Tryz.ntmps11
  go_upto_region 1 with (fail)
  have hw1 : ∃ B1, B1 = w.heap.size + 1 := ⟨_, rfl⟩
  obtain ⟨B1, hB1⟩ := hw1
  rw [← HB0.out]
  have H1' : Hid (((w.alloc (.cells #[.int .i64 spin, .int .u64 most, .slice A D.length c] 30)).alloc (.cells #[.int .i64 0, .int .u64 0, .slice none 0 0] 48)).heap[B1]? = some (.cells #[.int .i64 0, .int .u64 0, .slice none 0 0] 48)) := Lib.hid (by rw [hB1, ← HB0.out]; exact H1.out)
  have HLE2 : Hid (w.heap.size ≤ B1) := Lib.hid (by omega)
  have HLT2 : Hid (B1 < ((w.alloc (.cells #[.int .i64 spin, .int .u64 most, .slice A D.length c] 30)).alloc (.cells #[.int .i64 0, .int .u64 0, .slice none 0 0] 48)).heap.size) := Lib.hid (by rw [hB1, ← HB0.out]; exact HLT.out)
  rw [show B0 + 1 = B1 by rw [hB1, ← HB0.out]]
  have HNE : Hid (¬ B0 = B1) := Lib.hid (by rw [hB1, ← HB0.out]; omega)
  clear hB1 H1 HLT HLE HB0
  generalize (w.alloc (.cells #[.int .i64 spin, .int .u64 most, .slice A D.length c] 30)).alloc (.cells #[.int .i64 0, .int .u64 0, .slice none 0 0] 48) = w1 at *
  have HC0 : Hid (∀ W, Below w1.heap.size w1 W → W.cell? ⟨B0, 0, none⟩ = some (.int .i64 spin) ∧ W.cell? ⟨B0, 1, none⟩ = some (.int .u64 most) ∧ W.cell? ⟨B0, 2, none⟩ = some (.slice A D.length c)) := Lib.hid (fun W q => ⟨(q.cell (p := ⟨B0, 0, none⟩) (Array.getElem?_eq_some_iff.1 H0.out).1).trans (cell_row H0.out 0), (q.cell (p := ⟨B0, 1, none⟩) (Array.getElem?_eq_some_iff.1 H0.out).1).trans (cell_row H0.out 1), (q.cell (p := ⟨B0, 2, none⟩) (Array.getElem?_eq_some_iff.1 H0.out).1).trans (cell_row H0.out 2)⟩)
  have HZ : Hid (∀ W, Below w1.heap.size w1 W → W.cell? ⟨B1, 0, none⟩ = some (.int .i64 0) ∧ W.cell? ⟨B1, 1, none⟩ = some (.int .u64 0) ∧ W.cell? ⟨B1, 2, none⟩ = some (.slice none 0 0) ∧ W.frozen? ⟨B1, 0, none⟩ = false ∧ W.frozen? ⟨B1, 1, none⟩ = false ∧ W.frozen? ⟨B1, 2, none⟩ = false) := Lib.hid (fun W q => by
    have hb : W.heap[B1]? = _ := (q.block B1 HLT2.out).trans H1'.out
    exact ⟨cell_row hb 0, cell_row hb 1, cell_row hb 2, froz_row hb 0, froz_row hb 1, froz_row hb 2⟩)
  refine wp_region_held_drew (S := fun w' => w'.cell? ⟨B0, 0, none⟩ = some (.int .i64 spin) ∧ w'.cell? ⟨B0, 1, none⟩ = some (.int .u64 most) ∧ w'.cell? ⟨B0, 2, none⟩ = some (.slice A D.length c)) (by kernel_rfl) ?_ (fun hHeld => ?_)
  · exact HC0.out _ ((Below.refl _ _).drew)
  refine wpAnyH_take (i := 0) (oi := ({ dst := some 3, op := Op.fieldAddr 30 (Operand.tmp 1) 0, type := 0, pos := "help.go:26", after := #[], guard := none } : Oper)) (v := ?vax1) rfl (by kernel_rfl) (by kernel_rfl) (by kernel_rfl) (fun _ _ _ h => h) (Or.inl ⟨by rfl, fun w hSw => ?hyax1⟩) (by assumption) ?rax1
  case hyax1 => (try dsimp only at hSw); go_simp; (try with_reducible rfl)
  (try simp only [Act.put, List.setIfInBounds_toArray, List.set_cons_zero, List.set_cons_succ])
  refine wpAnyH_take (i := 1) (oi := ({ dst := some 4, op := Op.load 3 (Operand.tmp 3), type := 3, pos := "help.go:26", after := #[{ on := 0, ground := Ground.data }], guard := none } : Oper)) (v := ?vax2) rfl (by kernel_rfl) (by kernel_rfl) (by kernel_rfl) (fun _ _ _ h => h) (Or.inl ⟨by rfl, fun w hSw => ?hyax2⟩) (by assumption) ?rax2
  case hyax2 => (try dsimp only at hSw); go_simp; (try with_reducible rfl)
  (try simp only [Act.put, List.setIfInBounds_toArray, List.set_cons_zero, List.set_cons_succ])
  refine wpAnyH_take (i := 2) (oi := ({ dst := some 5, op := Op.fieldAddr 30 (Operand.tmp 1) 1, type := 0, pos := "help.go:26", after := #[], guard := none } : Oper)) (v := ?vax3) rfl (by kernel_rfl) (by kernel_rfl) (by kernel_rfl) (fun _ _ _ h => h) (Or.inl ⟨by rfl, fun w hSw => ?hyax3⟩) (by assumption) ?rax3
  case hyax3 => (try dsimp only at hSw); go_simp; (try with_reducible rfl)
  (try simp only [Act.put, List.setIfInBounds_toArray, List.set_cons_zero, List.set_cons_succ])
  refine wpAnyH_take (i := 3) (oi := ({ dst := some 6, op := Op.load 27 (Operand.tmp 5), type := 27, pos := "help.go:26", after := #[{ on := 2, ground := Ground.data }], guard := none } : Oper)) (v := ?vax4) rfl (by kernel_rfl) (by kernel_rfl) (by kernel_rfl) (fun _ _ _ h => h) (Or.inl ⟨by rfl, fun w hSw => ?hyax4⟩) (by assumption) ?rax4
  case hyax4 => (try dsimp only at hSw); go_simp; (try with_reducible rfl)
  (try simp only [Act.put, List.setIfInBounds_toArray, List.set_cons_zero, List.set_cons_succ])
  refine wpAnyH_take (i := 4) (oi := ({ dst := some 7, op := Op.fieldAddr 30 (Operand.tmp 1) 2, type := 0, pos := "help.go:26", after := #[], guard := none } : Oper)) (v := ?vax5) rfl (by kernel_rfl) (by kernel_rfl) (by kernel_rfl) (fun _ _ _ h => h) (Or.inl ⟨by rfl, fun w hSw => ?hyax5⟩) (by assumption) ?rax5
  case hyax5 => (try dsimp only at hSw); go_simp; (try with_reducible rfl)
  (try simp only [Act.put, List.setIfInBounds_toArray, List.set_cons_zero, List.set_cons_succ])
  refine wpAnyH_take (i := 5) (oi := ({ dst := some 8, op := Op.load 28 (Operand.tmp 7), type := 28, pos := "help.go:26", after := #[{ on := 4, ground := Ground.data }], guard := none } : Oper)) (v := ?vax6) rfl (by kernel_rfl) (by kernel_rfl) (by kernel_rfl) (fun _ _ _ h => h) (Or.inl ⟨by rfl, fun w hSw => ?hyax6⟩) (by assumption) ?rax6
  case hyax6 => (try dsimp only at hSw); go_simp; (try with_reducible rfl)
  (try simp only [Act.put, List.setIfInBounds_toArray, List.set_cons_zero, List.set_cons_succ])
  refine wpAnyH_ready (rs := [6]) (by kernel_rfl) (by simp) ?_
  refine AllReadyH.cons (o := ({ dst := some 9, op := Op.call { callee := Callee.builtin Builtin.append, args := #[Operand.const (Value.slice none 0 0), Operand.tmp 8], argTypes := #[28, 28] }, type := 28, pos := "help.go:26", after := #[{ on := 5, ground := Ground.data }], guard := none } : Oper)) rfl (fun Kq hKq => ?_) AllReadyH.nil
  refine step_append_row (base := w1.heap.size) (v := .slice none 0 0) (D := []) rfl _ _ rfl (by rfl) (row_nil _ _) (Nat.le_refl _) c (by rfl) (rfl : D.length = D.length) HR.out (by simp; exact HL.out) ?_; intro v3 w3 hr3 ht3 ho3; rw [List.nil_append] at hr3; obtain ⟨A3, cap3, hv3⟩ := hr3.shape; subst hv3
  have hb3 : Below w1.heap.size w1 w3 := (Below.refl _ w1).drew.trans (ht3.below (Nat.le_refl _) (fun k _ e => by cases e))
  have HB3 := Lib.hid hb3; have HR3 := Lib.hid hr3
  clear hb3 hr3 ht3 ho3
  refine hKq.out _ _ ?_ (fun hHeld => ?_)
  · exact HC0.out _ HB3.out
  clear hKq Kq
  (try simp only [Act.put, List.setIfInBounds_toArray, List.set_cons_zero, List.set_cons_succ])
  refine wpAnyH_take (i := 7) (oi := ({ dst := some 10, op := Op.build 48 #[(0, Operand.tmp 4), (1, Operand.tmp 6), (2, Operand.tmp 9)], type := 48, pos := "help.go:26", after := #[{ on := 1, ground := Ground.data }, { on := 3, ground := Ground.data }, { on := 6, ground := Ground.data }], guard := none } : Oper)) (v := ?vax7) rfl (by kernel_rfl) (by kernel_rfl) (by kernel_rfl) (fun _ _ _ h => h) (Or.inl ⟨by rfl, fun w hSw => ?hyax7⟩) (by assumption) ?rax7
  case hyax7 => (try dsimp only at hSw); go_simp; (try with_reducible rfl)
  (try simp only [Act.put, List.setIfInBounds_toArray, List.set_cons_zero, List.set_cons_succ])
  refine wpAnyH_ready (rs := [8]) (by kernel_rfl) (by simp) ?_
  refine AllReadyH.cons (o := ({ dst := none, op := Op.store 48 (Operand.tmp 2) (Operand.tmp 10), type := 0, pos := "help.go:26", after := #[{ on := 7, ground := Ground.data }, { on := 6, ground := Ground.chain }, { on := 0, ground := Ground.phase }, { on := 1, ground := Ground.phase }, { on := 2, ground := Ground.phase }, { on := 3, ground := Ground.phase }, { on := 4, ground := Ground.phase }, { on := 5, ground := Ground.phase }, { on := 6, ground := Ground.phase }, { on := 7, ground := Ground.phase }], guard := none } : Oper)) rfl (fun Kq hKq => ?_) AllReadyH.nil
  obtain ⟨z0, z1, z2, f0, f1, f2⟩ := HZ.out _ HB3.out
  go_simp
  have HB4 : Hid (Below w.heap.size w (((w3.setCell ⟨B1, 0, none⟩ (.int .i64 spin)).setCell ⟨B1, 1, none⟩ (.int .u64 most)).setCell ⟨B1, 2, none⟩ (.slice A3 D.length cap3))) := Lib.hid ((((HBW.out.trans (HB3.out.mono HBW.out.size)).setCell (p := ⟨B1, 0, none⟩) HLE2.out _).setCell (p := ⟨B1, 1, none⟩) HLE2.out _).setCell (p := ⟨B1, 2, none⟩) HLE2.out _)
  have HR4 : Hid (Row (((w3.setCell ⟨B1, 0, none⟩ (.int .i64 spin)).setCell ⟨B1, 1, none⟩ (.int .u64 most)).setCell ⟨B1, 2, none⟩ (.slice A3 D.length cap3)) w1.heap.size (.slice A3 D.length cap3) D) := Lib.hid (HR3.out.keep ((((Turns.refl (fun k => k = B1) w3).setCell ⟨B1, 0, none⟩ _ rfl).setCell ⟨B1, 1, none⟩ _ rfl).setCell ⟨B1, 2, none⟩ _ rfl) (fun g hg e => by have := (HR3.out.lt g hg).1; have := HLT2.out; omega))
  have hb3 : w3.heap[B1]? = some (.cells #[.int .i64 0, .int .u64 0, .slice none 0 0] 48 (0, 0)) := (HB3.out.block B1 HLT2.out).trans H1'.out
  have h4 : (((w3.setCell ⟨B1, 0, none⟩ (.int .i64 spin)).setCell ⟨B1, 1, none⟩ (.int .u64 most)).setCell ⟨B1, 2, none⟩ (.slice A3 D.length cap3)).heap[B1]? = some (.cells #[.int .i64 spin, .int .u64 most, .slice A3 D.length cap3] 48 (0, 0)) := by simp [World.setCell, Array.getElem?_modify, hb3]
  have h40 : (((w3.setCell ⟨B1, 0, none⟩ (.int .i64 spin)).setCell ⟨B1, 1, none⟩ (.int .u64 most)).setCell ⟨B1, 2, none⟩ (.slice A3 D.length cap3)).heap[B0]? = w3.heap[B0]? := ((((Turns.refl (fun k => k = B1) w3).setCell ⟨B1, 0, none⟩ _ rfl).setCell ⟨B1, 1, none⟩ _ rfl).setCell ⟨B1, 2, none⟩ _ rfl).block B0 (Nat.lt_of_lt_of_le (Array.getElem?_eq_some_iff.1 H0.out).1 HB3.out.size) HNE.out
  have h41 := h40.trans ((HB3.out.block B0 (Array.getElem?_eq_some_iff.1 H0.out).1).trans H0.out)
  have d0 := cell_row h4 0; have d1 := cell_row h4 1; have d2 := cell_row h4 2
  have S0 := cell_row h41 0; have S1 := cell_row h41 1; have S2 := cell_row h41 2
  clear h4 h40 h41 hb3
  simp only [List.getElem?_toArray, List.getElem?_cons_zero, List.getElem?_cons_succ] at d0 d1 d2 S0 S1 S2
  clear z0 z1 z2 f0 f1 f2
  generalize (((w3.setCell ⟨B1, 0, none⟩ (.int .i64 spin)).setCell ⟨B1, 1, none⟩ (.int .u64 most)).setCell ⟨B1, 2, none⟩ (.slice A3 D.length cap3)) = w4 at *
  refine hKq.out _ _ ?_ (fun hHeld => ?_)
  · exact ⟨S0, S1, S2⟩
  clear hKq Kq
  (try simp only [Act.put, List.setIfInBounds_toArray, List.set_cons_zero, List.set_cons_succ])
  refine wpAnyH_done (by kernel_rfl) ?_ _
  clear hHeld S0 S1 S2
  go_wp2_with fail
  exact bodyPost_ret (v := .agg #[.int .i64 spin, .int .u64 most, .slice A3 D.length cap3]) (by simp [results, Tryz.results11, go_sem, d0, d1, d2]) rfl (HFN.out _ _ _ _ HBW.out.size HR4.out HB4.out)
end Go.Proofs.YtdodloannlfnlaaGreat.S3
namespace Go.Proofs.YtdodloannlfnlaaGreat.S10
open Go.Proofs.YtdodloannlfnlaaGreat
open Go.RowKit

section
variable {M : Int → List Bk} {N : Nat}
theorem grow_all2 (g : Good M N) (hN : N ≤ 100000) {fr tg : Int} (hf : InI fr) (ht : InI tg) (now : Int) : ∃ (a : Bool) (M' : Int → List Bk), Good M' N ∧ (a = false → M' = M) ∧ (a = true → 2 ≤ tg ∧ tg ≤ 8) ∧
    (∀ W base own s n, n < 1000000 → St W base own s n M → Calls Tryz.prog 14 #[s, .int .i64 fr, .int .i64 tg, .int .u64 now] W fun e w' => e = .returned (.bool a) ∧ ∃ own', St w' base own' s (n + 1) M' ∧ Turns (Mine own) W w' ∧ Fresh own own' W) ∧
    (∀ W base own s, Rt W base own s M → Calls Tryz.prog 13 #[s, .int .i64 fr, .int .i64 tg, .int .u64 now] W fun e w' => e = .returned (.bool a) ∧ ∃ own', Rt w' base own' s M' ∧ Turns (Mine own) W w' ∧ Fresh own own' W) := by
  by_cases hno : M fr = [] ∨ tg ≤ fr ∨ 8 < tg ∨ M tg ≠ []
  · refine ⟨false, M, g, fun _ => rfl, (fun h => by cases h), fun W base own s n _ hs => ?_, fun W base own s hs => ?_⟩
    · obtain ⟨F, hr⟩ := hs.rs
      refine (grow_no hr hf ht now hno).mono ?_
      rintro e w' ⟨rfl, rfl⟩
      exact ⟨rfl, own, hs.mono (by omega), Turns.refl _ _, Fresh.refl _ _⟩
    · refine (rgrow_no hs now hno).mono ?_
      rintro e w' ⟨rfl, rfl⟩
      exact ⟨rfl, own, hs, Turns.refl _ _, Fresh.refl _ _⟩
  · have h0 : M fr ≠ [] := fun e => hno (.inl e)
    have h1 : fr < tg := by
      by_cases h : tg ≤ fr
      · exact absurd (.inr (.inl h)) hno
      · omega
    have h2 : tg ≤ 8 := by
      by_cases h : 8 < tg
      · exact absurd (.inr (.inr (.inl h))) hno
      · omega
    have h3 : M tg = [] := by
      by_cases h : M tg = []
      · exact h
      · exact absurd (.inr (.inr (.inr h))) hno
    have h4 : 2 ≤ fr := by
      by_cases h : fr < 2 ∨ 8 < fr
      · exact absurd (g.no fr h) h0
      · omega
    obtain ⟨h, hk, -⟩ := kits
    have K := hk tg.toNat (by omega) (by omega)
    have Kf := hk fr.toNat (by omega) (by omega)
    rw [Int.toNat_of_nonneg (by omega)] at K Kf
    have hlt : ∀ k, k < 4294967296 → h tg.toNat k < 2 ^ tg.toNat := K.lt (Nat.pow_pos (by omega))
    have hl := g.size fr h0
    have hfew := g.few fr
    have hle := g.len fr
    exact ⟨true, _, g.grow now h4 h1 h2 hlt, (fun h => by cases h), fun _ => ⟨by omega, h2⟩, fun W base own s n hn hs => grow_yes hs hf ht now h0 h1 h2 h3 K hle (g.keys fr) (by omega) hn, fun W base own s hs => rgrow_yes hs now h0 h1 h2 h3 K Kf hl (g.keys fr) (by omega)⟩
end
end Go.Proofs.YtdodloannlfnlaaGreat.S10
namespace Go.Proofs.YtdodloannlfnlaaGreat.S4
open Go.Proofs.YtdodloannlfnlaaGreat Go.Proofs.YtdodloannlfnlaaGreat.S11
open Go.RowKit

structure RPkAt (w : World) (B : Nat) (f : Nat → Pk) (n kd pk : Int) : Prop where
  lt : B < w.heap.size
  c0 : ∀ i, i < 128 → w.cell? ⟨B, i * 4, none⟩ = some (.bool (f i).p)
  c1 : ∀ i, i < 128 → w.cell? ⟨B, i * 4 + 1, none⟩ = some (.bool (f i).a)
  c2 : ∀ i, i < 128 → w.cell? ⟨B, i * 4 + 2, none⟩ = some (.bool (f i).o)
  c3 : ∀ i, i < 128 → w.cell? ⟨B, i * 4 + 3, none⟩ = some (.int .u64 ((f i).t : Int))
  cn : w.cell? ⟨B, 512, none⟩ = some (.int .i64 n)
  ck : w.cell? ⟨B, 513, none⟩ = some (.int .i64 kd)
  cp : w.cell? ⟨B, 514, none⟩ = some (.int .i64 pk)
  fz : ∀ i, w.frozen? ⟨B, i, none⟩ = false
section
variable {w w' : World} {B : Nat} {f : Nat → Pk} {n kd pk : Int}
theorem RPkAt.kept {T : Nat → Prop} (h : RPkAt w B f n kd pk) (t : Turns T w w') (hB : ¬ T B) : RPkAt w' B f n kd pk :=
  ⟨Nat.lt_of_lt_of_le h.lt t.size, fun i hi => (t.cell h.lt hB).trans (h.c0 i hi), fun i hi => (t.cell h.lt hB).trans (h.c1 i hi), fun i hi => (t.cell h.lt hB).trans (h.c2 i hi), fun i hi => (t.cell h.lt hB).trans (h.c3 i hi), (t.cell h.lt hB).trans h.cn, (t.cell h.lt hB).trans h.ck, (t.cell h.lt hB).trans h.cp, fun i => (t.frozen h.lt hB).trans (h.fz i)⟩
theorem RPkAt.new (h : RPkAt w B f n kd pk) (b : Below w.heap.size w w') : RPkAt w' B f n kd pk := h.kept (Turns.of_below (S := fun _ => False) b) (fun e => e)
end
theorem RPkAt.setN {w : World} {B : Nat} {f : Nat → Pk} {n kd pk : Int} (h : RPkAt w B f n kd pk) (m : Int) : RPkAt (w.setCell ⟨B, 512, none⟩ (.int .i64 m)) B f m kd pk :=
  ⟨by simpa [World.setCell] using h.lt, fun i hi => (cset (by omega)).trans (h.c0 i hi), fun i hi => (cset (by omega)).trans (h.c1 i hi), fun i hi => (cset (by omega)).trans (h.c2 i hi), fun i hi => (cset (by omega)).trans (h.c3 i hi), World.cell?_setCell_same _ _ _ h.cn, (cset (by omega)).trans h.ck, (cset (by omega)).trans h.cp, fun i => by rw [World.frozen?_setCell]; exact h.fz i⟩
theorem RPkAt.setK {w : World} {B : Nat} {f : Nat → Pk} {n kd pk : Int} (h : RPkAt w B f n kd pk) (m : Int) : RPkAt (w.setCell ⟨B, 513, none⟩ (.int .i64 m)) B f n m pk :=
  ⟨by simpa [World.setCell] using h.lt, fun i hi => (cset (by omega)).trans (h.c0 i hi), fun i hi => (cset (by omega)).trans (h.c1 i hi), fun i hi => (cset (by omega)).trans (h.c2 i hi), fun i hi => (cset (by omega)).trans (h.c3 i hi), (cset (by omega)).trans h.cn, World.cell?_setCell_same _ _ _ h.ck, (cset (by omega)).trans h.cp, fun i => by rw [World.frozen?_setCell]; exact h.fz i⟩
theorem RPkAt.setP {w : World} {B : Nat} {f : Nat → Pk} {n kd pk : Int} (h : RPkAt w B f n kd pk) (m : Int) : RPkAt (w.setCell ⟨B, 514, none⟩ (.int .i64 m)) B f n kd m :=
  ⟨by simpa [World.setCell] using h.lt, fun i hi => (cset (by omega)).trans (h.c0 i hi), fun i hi => (cset (by omega)).trans (h.c1 i hi), fun i hi => (cset (by omega)).trans (h.c2 i hi), fun i hi => (cset (by omega)).trans (h.c3 i hi), (cset (by omega)).trans h.cn, (cset (by omega)).trans h.ck, World.cell?_setCell_same _ _ _ h.cp, fun i => by rw [World.frozen?_setCell]; exact h.fz i⟩
theorem RPkAt.setPermit {w : World} {B : Nat} {f : Nat → Pk} {n kd pk : Int} (h : RPkAt w B f n kd pk) {i : Nat} (hi : i < 128) (b : Bool) : RPkAt (w.setCell ⟨B, i * 4, none⟩ (.bool b)) B (updP f i { f i with p := b }) n kd pk := by
  have hj : ∀ j, j ≠ i → updP f i { f i with p := b } j = f j := fun j e => by simp [updP, e]
  have he : updP f i { f i with p := b } i = { f i with p := b } := by simp [updP]
  refine ⟨by simpa [World.setCell] using h.lt, fun j hl => ?_, fun j hl => (cset (by omega)).trans ?_, fun j hl => (cset (by omega)).trans ?_, fun j hl => (cset (by omega)).trans ?_, (cset (by omega)).trans h.cn, (cset (by omega)).trans h.ck, (cset (by omega)).trans h.cp, fun j => by rw [World.frozen?_setCell]; exact h.fz j⟩
  · by_cases e : j = i
    · subst e; rw [he]; exact World.cell?_setCell_same _ _ _ (h.c0 j hl)
    · rw [hj j e]; exact (cset (by omega)).trans (h.c0 j hl)
  · rw [h.c1 j hl]; by_cases e : j = i
    · subst e; rw [he]
    · rw [hj j e]
  · rw [h.c2 j hl]; by_cases e : j = i
    · subst e; rw [he]
    · rw [hj j e]
  · rw [h.c3 j hl]; by_cases e : j = i
    · subst e; rw [he]
    · rw [hj j e]
theorem RPkAt.setAll {w : World} {B : Nat} {f : Nat → Pk} {n kd pk : Int} (h : RPkAt w B f n kd pk) {i : Nat} (hi : i < 128) (x : Pk) :
    RPkAt ((((w.setCell ⟨B, i * 4, none⟩ (.bool x.p)).setCell ⟨B, i * 4 + 1, none⟩ (.bool x.a)).setCell ⟨B, i * 4 + 2, none⟩ (.bool x.o)).setCell ⟨B, i * 4 + 3, none⟩ (.int .u64 (x.t : Int))) B (updP f i x) n kd pk := by
  have hj : ∀ j, j ≠ i → updP f i x j = f j := fun j e => by simp [updP, e]
  have he : updP f i x i = x := by simp [updP]
  have far : ∀ k v, (k ≠ i * 4 ∧ k ≠ i * 4 + 1 ∧ k ≠ i * 4 + 2 ∧ k ≠ i * 4 + 3) → w.cell? ⟨B, k, none⟩ = some v → ((((w.setCell ⟨B, i * 4, none⟩ (.bool x.p)).setCell ⟨B, i * 4 + 1, none⟩ (.bool x.a)).setCell ⟨B, i * 4 + 2, none⟩ (.bool x.o)).setCell ⟨B, i * 4 + 3, none⟩ (.int .u64 (x.t : Int))).cell? ⟨B, k, none⟩ = some v := fun k v hk e => by
    rw [cset (by omega), cset (by omega), cset (by omega), cset (by omega)]; exact e
  refine ⟨by simpa [World.setCell] using h.lt, fun j hl => ?_, fun j hl => ?_, fun j hl => ?_, fun j hl => ?_, far _ _ (by omega) h.cn, far _ _ (by omega) h.ck, far _ _ (by omega) h.cp, fun j => by rw [World.frozen?_setCell, World.frozen?_setCell, World.frozen?_setCell, World.frozen?_setCell]; exact h.fz j⟩
  · by_cases e : j = i
    · subst e; rw [he, cset (by omega), cset (by omega), cset (by omega)]; exact World.cell?_setCell_same _ _ _ (h.c0 j hl)
    · rw [hj j e]; exact far _ _ (by omega) (h.c0 j hl)
  · by_cases e : j = i
    · subst e; rw [he, cset (by omega), cset (by omega)]; exact World.cell?_setCell_same _ _ _ ((cset (by omega)).trans (h.c1 j hl))
    · rw [hj j e]; exact far _ _ (by omega) (h.c1 j hl)
  · by_cases e : j = i
    · subst e; rw [he, cset (by omega)]; exact World.cell?_setCell_same _ _ _ ((cset (by omega)).trans ((cset (by omega)).trans (h.c2 j hl)))
    · rw [hj j e]; exact far _ _ (by omega) (h.c2 j hl)
  · by_cases e : j = i
    · subst e; rw [he]; exact World.cell?_setCell_same _ _ _ ((cset (by omega)).trans ((cset (by omega)).trans ((cset (by omega)).trans (h.c3 j hl))))
    · rw [hj j e]; exact far _ _ (by omega) (h.c3 j hl)
def RZPn (n : Nat) : Array Value := ((List.replicate n blkP).flatten ++ [Value.int .i64 0, Value.int .i64 0, Value.int .i64 0]).toArray
def RZP : Array Value := RZPn 128
theorem rzero140 : Tryz.zeroCells113 = RZP := by kernel_rfl
theorem rzpn_get (n i j : Nat) (hi : i < n) (hj : j < 4) : (RZPn n)[i * 4 + j]? = blkP[j]? := by
  unfold RZPn
  rw [List.getElem?_toArray]
  exact rep_get blkP rfl _ n i j hi hj
theorem rzpn_end (n j : Nat) : (RZPn n)[n * 4 + j]? = [Value.int .i64 0, Value.int .i64 0, Value.int .i64 0][j]? := by
  unfold RZPn
  rw [List.getElem?_toArray, List.getElem?_append_right (by rw [rep_len _ rfl]; omega), rep_len _ rfl]
  congr 1; omega
theorem rzp_get (i j : Nat) (hi : i < 128) (hj : j < 4) : RZP[i * 4 + j]? = blkP[j]? := rzpn_get 128 i j hi hj
theorem rzp_end (j : Nat) : RZP[512 + j]? = [Value.int .i64 0, Value.int .i64 0, Value.int .i64 0][j]? := rzpn_end 128 j
theorem rpk_row {w : World} {B : Nat} {T : TypeId} (h : w.heap[B]? = some (.cells RZP T (0, 0))) : RPkAt w B (fun _ => pk0) 0 0 0 :=
  ⟨(Array.getElem?_eq_some_iff.1 h).1, fun i hi => (cell_row h _).trans (rzp_get i 0 hi (by omega)), fun i hi => (cell_row h _).trans (rzp_get i 1 hi (by omega)), fun i hi => (cell_row h _).trans (rzp_get i 2 hi (by omega)), fun i hi => (cell_row h _).trans (rzp_get i 3 hi (by omega)), (cell_row h _).trans (rzp_end 0), (cell_row h _).trans (rzp_end 1), (cell_row h _).trans (rzp_end 2), fun i => froz_row h i⟩
end Go.Proofs.YtdodloannlfnlaaGreat.S4
namespace Go.Proofs.YtdodloannlfnlaaGreat.S4
open Go.Proofs.YtdodloannlfnlaaGreat Go.Proofs.YtdodloannlfnlaaGreat.S11
open Go.RowKit

def parkK (x : Pk) : Pk := if x.p then pk0 else ⟨false, true, false, 0⟩
set_option maxRecDepth 100000 in
theorem take_any {w : World} {B : Nat} {f : Nat → Pk} {n kd pk : Int} (h : PkAt w B f n kd pk) {i : Nat} (hi : i < 128) :
    Calls Tryz.prog 187 #[Pt B, .int .i64 (i : Int)] w fun e w' => e = .returned (.bool (f i).p) ∧ PkAt w' B (if (f i).p then updP f i pk0 else f) n kd pk ∧ Turns (fun k => k = B) w w' ∧ w'.heap.size = w.heap.size := by
  have c0 := h.c0 i hi; have c1 := h.c1 i hi; have c2 := h.c2 i hi; have c3 := h.c3 i hi
  have z0 := h.fz (i * 4); have z1 := h.fz (i * 4 + 1); have z2 := h.fz (i * 4 + 2); have z3 := h.fz (i * 4 + 3)
  have h1 : (i : Int) < 128 := by omega
  have H := Lib.hid h
  cases hp : (f i).p
  · rw [hp] at c0
    clear h
    go_enter Tryz.func187, Tryz.ntmps187
    go_wp2_with fail
    go_ret
    exact ⟨rfl, H.out, Turns.refl _ _, rfl⟩
  · rw [hp] at c0
    clear h
    go_enter Tryz.func187, Tryz.ntmps187
    go_wp2_with fail
    go_ret
    refine ⟨rfl, H.out.setAll hi pk0, ?_, by simp [World.setCell]⟩
    exact (((((Turns.refl (fun k => k = B) w).setCell ⟨B, i * 4, none⟩ _ rfl).setCell ⟨B, i * 4 + 1, none⟩ _ rfl).setCell ⟨B, i * 4 + 2, none⟩ _ rfl).setCell ⟨B, i * 4 + 3, none⟩ _ rfl)
set_option maxRecDepth 100000 in
theorem park_b {w : World} {B : Nat} {f : Nat → Pk} {n kd pk : Int} (h : PkAt w B f n kd pk) (hn : 0 ≤ n ∧ n ≤ 1000000000) {i : Nat} (hi : i < 128) (b : Bool) (hb : (f i).p = b) :
    Calls Tryz.prog 186 #[Pt B, .int .i64 (i : Int)] w fun e w' => e = .returned (.int .u8 (if b then 1 else 0)) ∧ PSets w w' B (updP f i (parkK (f i))) (n + 1) 2 (i : Int) := by
  have hq := called_yes h hn 2 hi
  have HQ := Lib.hid hq
  have h1 : (i : Int) < 128 := by omega
  clear hq h hn
  go_enter Tryz.func186, Tryz.ntmps186
  go_upto_region 3 with (go_at_call 183; refine HQ.out.mono ?_; rintro e w1 ⟨rfl, hp, ht, hz⟩)
  have htk := take_any hp hi
  have HTK := Lib.hid htk; have HP := Lib.hid hp; have HT := Lib.hid ht; have HZ := Lib.hid hz
  clear htk hp ht hz
  cases b
  · have hp := hb
    clear hb
    rw [hp] at HTK
    go_upto_region 5 with (go_at_call 187; refine HTK.out.mono ?_; rintro e w2 ⟨rfl, hp2, ht2, hz2⟩)
    rw [if_neg (by decide)] at hp2
    have c0 := hp2.c0 i hi; have c1 := hp2.c1 i hi; have c2 := hp2.c2 i hi; have c3 := hp2.c3 i hi
    have z0 := hp2.fz (i * 4); have z1 := hp2.fz (i * 4 + 1); have z2 := hp2.fz (i * 4 + 2); have z3 := hp2.fz (i * 4 + 3)
    have HP2 := Lib.hid hp2; have HT2 := Lib.hid (HT.out.trans ht2 (fun _ _ e => e)); have HZ2 := Lib.hid (hz2.trans HZ.out)
    clear hp2 ht2 hz2 HP HT HZ HTK HQ
    have hk : parkK (f i) = ⟨false, true, false, 0⟩ := by unfold parkK; rw [hp]; rfl
    have HK := Lib.hid hk
    clear hk hp
    go_wp2_with fail
    go_ret
    refine ⟨rfl, by rw [HK.out]; exact HP2.out.setAll hi ⟨false, true, false, 0⟩, ?_, by simpa [World.setCell] using HZ2.out⟩
    exact ((((HT2.out.setCell ⟨B, i * 4, none⟩ _ rfl).setCell ⟨B, i * 4 + 1, none⟩ _ rfl).setCell ⟨B, i * 4 + 2, none⟩ _ rfl).setCell ⟨B, i * 4 + 3, none⟩ _ rfl)
  · have hp := hb
    clear hb
    rw [hp] at HTK
    have hk : parkK (f i) = pk0 := by unfold parkK; rw [hp]; rfl
    have HK := Lib.hid hk
    clear hk hp
    go_wp2_with (go_at_call 187; refine HTK.out.mono ?_; rintro e w2 ⟨rfl, hp2, ht2, hz2⟩)
    go_ret
    exact ⟨rfl, by rw [HK.out]; exact hp2, HT.out.trans ht2 (fun _ _ e => e), hz2.trans HZ.out⟩
theorem park_yes {w : World} {B : Nat} {f : Nat → Pk} {n kd pk : Int} (h : PkAt w B f n kd pk) (hn : 0 ≤ n ∧ n ≤ 1000000000) {i : Nat} (hi : i < 128) :
    Calls Tryz.prog 186 #[Pt B, .int .i64 (i : Int)] w fun e w' => e = .returned (.int .u8 (if (f i).p then 1 else 0)) ∧ PSets w w' B (updP f i (parkK (f i))) (n + 1) 2 (i : Int) := park_b h hn hi _ rfl
def rgoesB (x : Pk) (now : Nat) : Bool := !x.a || x.p || (x.o && decide (x.t ≤ now))
set_option maxRecDepth 100000 in
theorem rgoes_yes {w : World} {B : Nat} {f : Nat → Pk} {n kd pk : Int} (h : RPkAt w B f n kd pk) {i : Nat} (hi : i < 128) (now : Nat) :
    Calls Tryz.prog 31 #[Pt B, .int .i64 (i : Int), .int .u64 (now : Int)] w fun e w' => e = .returned (.bool (rgoesB (f i) now)) ∧ Below w.heap.size w w' := by
  have h1 : decide ((i : Int) < 0) = false := by simp
  have h2 : decide ((127 : Int) < (i : Int)) = false := by simp; omega
  have h3 : (i : Int) < 128 := by omega
  have c0 := h.c0 i hi; have c1 := h.c1 i hi; have c2 := h.c2 i hi; have c3 := h.c3 i hi
  have HB : ∀ a : Array Value, Below w.heap.size w (w.alloc (.cells a 110)) := fun a => (Below.refl _ _).alloc (Nat.le_refl _) _
  have HBB := Lib.hid HB
  clear h hi HB
  generalize f i = x at *
  obtain ⟨p, a, o, t⟩ := x
  dsimp only at c0 c1 c2 c3
  unfold rgoesB
  dsimp only
  cases a
  · go_enter Tryz.func31, Tryz.ntmps31
    go_wp2_with fail
    go_ret
    exact ⟨rfl, HBB.out _⟩
  · cases p
    · cases o
      · go_enter Tryz.func31, Tryz.ntmps31
        go_wp2_with fail
        go_ret
        exact ⟨rfl, HBB.out _⟩
      · by_cases ht : t ≤ now
        · rw [decide_eq_true ht]
          go_enter Tryz.func31, Tryz.ntmps31
          go_wp2_with fail
          go_ret
          exact ⟨by simp [ht], HBB.out _⟩
        · rw [decide_eq_false ht]
          go_enter Tryz.func31, Tryz.ntmps31
          go_wp2_with fail
          go_ret
          exact ⟨by simp [ht], HBB.out _⟩
    · go_enter Tryz.func31, Tryz.ntmps31
      go_wp2_with fail
      go_ret
      exact ⟨rfl, HBB.out _⟩
def PkOk (f : Nat → Pk) : Prop := ∀ i, (f i).a = false → (f i).o = false ∧ (f i).t = 0
theorem goes_both {x : Pk} (h : x.a = false → x.o = false ∧ x.t = 0) (now : Nat) : rgoesB x now = goesB x now := by
  obtain ⟨p, a, o, t⟩ := x
  unfold rgoesB goesB pk0
  dsimp only at h ⊢
  cases a
  · obtain ⟨rfl, rfl⟩ := h rfl
    cases p <;> simp
  · cases p <;> simp
theorem pkok0 : PkOk (fun _ => pk0) := fun _ _ => ⟨rfl, rfl⟩
end Go.Proofs.YtdodloannlfnlaaGreat.S4
namespace Go.Proofs.YtdodloannlfnlaaGreat.S12
open Go.Proofs.YtdodloannlfnlaaGreat Go.Proofs.YtdodloannlfnlaaGreat.S11
open Go.RowKit

section
variable {w w' : World} {base : Nat} {l l' : List Part}
theorem Parts.left (h : Parts w base (l ++ l')) : Parts w base l := by
  have g : ∀ i p, l[i]? = some p → (l ++ l')[i]? = some p := fun i p hp => by
    rw [List.getElem?_append_left (List.getElem?_eq_some_iff.1 hp).1]; exact hp
  exact ⟨h.size, fun i p hp => h.ok i p (g i p hp), fun i j p q hp hq => h.apart i j p q (g i p hp) (g j q hq), fun i p hp => h.low i p (g i p hp)⟩
theorem Parts.right (h : Parts w base (l ++ l')) : Parts w base l' := by
  have g : ∀ i p, l'[i]? = some p → (l ++ l')[l.length + i]? = some p := fun i p hp => by
    rw [List.getElem?_append_right (by omega), Nat.add_sub_cancel_left]; exact hp
  exact ⟨h.size, fun i p hp => h.ok _ p (g i p hp), fun i j p q hp hq hij => h.apart _ _ p q (g i p hp) (g j q hq) (by omega), fun i p hp => h.low _ p (g i p hp)⟩
theorem Parts.join {b2 : Nat} (h : Parts w base l) (b : Below w.heap.size w w') (h2 : Parts w' b2 l') (hb : w.heap.size ≤ b2) : Parts w' base (l' ++ l) := by
  have h1 := h.new b
  have split : ∀ j r, (l' ++ l)[j]? = some r → (j < l'.length ∧ l'[j]? = some r) ∨ (l'.length ≤ j ∧ l[j - l'.length]? = some r) := fun j r hr => by
    by_cases hj : j < l'.length
    · rw [List.getElem?_append_left hj] at hr; exact .inl ⟨hj, hr⟩
    · rw [List.getElem?_append_right (by omega)] at hr; exact .inr ⟨by omega, hr⟩
  refine ⟨Nat.le_trans h.size b.size, fun j r hr => ?_, fun j k r s hr hs hjk x hx hy => ?_, fun j r hr x hx => ?_⟩
  · rcases split j r hr with ⟨_, hr⟩ | ⟨_, hr⟩
    · exact h2.ok _ _ hr
    · exact h1.ok _ _ hr
  · rcases split j r hr with ⟨_, h3⟩ | ⟨_, h3⟩ <;> rcases split k s hs with ⟨_, h4⟩ | ⟨_, h4⟩
    · exact h2.apart _ _ _ _ h3 h4 hjk x hx hy
    · have := h2.low _ _ h3 x hx; have := s.lt w (h.ok _ _ h4) x hy; omega
    · have := h2.low _ _ h4 x hy; have := r.lt w (h.ok _ _ h3) x hx; omega
    · exact h1.apart _ _ _ _ h3 h4 (by omega) x hx hy
  · rcases split j r hr with ⟨_, hr⟩ | ⟨_, hr⟩
    · have := h2.low _ _ hr x hx; have := h.size; omega
    · exact h1.low _ _ hr x hx
end
def rpermitsP (B : Nat) (f : Nat → S4.Pk) (n kd pk : Int) : Part where
  ok w := S4.RPkAt w B f n kd pk
  fp k := k = B
  lt w h k e := by rw [e]; exact h.lt
  kept S w w' h t hs := h.kept (T := S) t (hs B rfl)
theorem Parts.recast {w : World} {base i : Nat} {l : List Part} {p : Part} (h : Parts w base l) (hi : l[i]? = some p) (q : Part) (hq : q.ok w) (hf : ∀ k, q.fp k → p.fp k) : Parts w base (l.set i q) :=
  (h.turn hi q hq (Turns.refl _ _) (fun k e => .inl (hf k e))).1
structure Rm where
  rb : Nat
  rB : Nat
  rs : Value
  L : S2.LL
  n : Nat
  k : Nat
  a : Nat
  was : Nat
  is : Nat
  kb : Nat
  kB : Nat
  T : Nat
  most : Nat
  ks : Value
  D : List Nat
  tb : Nat
  tO : Nat → Option S10.Role
  ts : Value
  M : Int → List S10.Bk
  pB : Nat
  pf : Nat → S4.Pk
  pn : Nat
  pk : Int
  pp : Int
  lB : Nat
  lk : S5.Lk
  nb : Nat
  nB : Nat
  ns : Value
  nD : List Nt
  wB : Nat
  sp : Int
noncomputable def Rm.cs (Y : Rm) : Array Value := wcells (Pw Y.rB) (Pw Y.kB) (Pw Y.pB) (Pw Y.lB) Y.ts (Pw Y.nB) Y.sp
noncomputable def Rm.parts (Y : Rm) : List Part := [rcellsP Y.rb Y.rB Y.rs Y.L Y.n Y.k Y.a Y.was Y.is, rclockP Y.kb Y.kB Y.T Y.most Y.ks Y.D, rtablesP Y.tb Y.tO Y.ts Y.M, rpermitsP Y.pB Y.pf (Y.pn : Int) Y.pk Y.pp, linksP Y.lB Y.lk, notesP 104 .i64 Y.nb Y.nB Y.ns Y.nD, blockP Y.wB (.cells Y.cs 68)]
theorem rsize : Tryz.zeroCells68.size = 71 := by kernel_rfl
theorem rc0 (a b c d e f : Value) (sp : Int) : (wcells a b c d e f sp)[0]? = some a := by
  simp [wcells, Array.getElem?_setIfInBounds, rsize]
theorem rc1 (a b c d e f : Value) (sp : Int) : (wcells a b c d e f sp)[1]? = some b := by
  simp [wcells, Array.getElem?_setIfInBounds, rsize]
theorem rc2 (a b c d e f : Value) (sp : Int) : (wcells a b c d e f sp)[2]? = some c := by
  simp [wcells, Array.getElem?_setIfInBounds, rsize]
theorem rc3 (a b c d e f : Value) (sp : Int) : (wcells a b c d e f sp)[3]? = some d := by
  simp [wcells, Array.getElem?_setIfInBounds, rsize]
theorem rc4 (a b c d e f : Value) (sp : Int) : (wcells a b c d e f sp)[4]? = some e := by
  simp [wcells, Array.getElem?_setIfInBounds, rsize]
theorem rc5 (a b c d e f : Value) (sp : Int) : (wcells a b c d e f sp)[5]? = some f := by
  simp [wcells, Array.getElem?_setIfInBounds, rsize]
def PairAt (w : World) (base : Nat) (E : List Part) (X : Wm) (Y : Rm) : Prop := Parts w base (X.parts ++ (Y.parts ++ E))
section
variable {w w' : World} {base : Nat} {E : List Part} {X : Wm} {Y : Rm}
theorem PairAt.pw (h : PairAt w base E X Y) : PW w base X := Parts.left h
theorem PairAt.new (h : PairAt w base E X Y) (b : Below w.heap.size w w') : PairAt w' base E X Y := Parts.new h b
theorem PairAt.drew (h : PairAt w base E X Y) : PairAt w.drew base E X Y := Parts.drew h
theorem PairAt.size (h : PairAt w base E X Y) : base ≤ w.heap.size := Parts.size h
theorem PairAt.rcells (h : PairAt w base E X Y) : S2.RefAt w Y.rb Y.rB Y.rs Y.L Y.n Y.k Y.a Y.was Y.is := h.ok 7 _ rfl
theorem PairAt.rclock (h : PairAt w base E X Y) : S3.RefAt w Y.kb Y.kB Y.T Y.most Y.ks Y.D := h.ok 8 _ rfl
theorem PairAt.rtables (h : PairAt w base E X Y) : S10.Rt w Y.tb Y.tO Y.ts Y.M := h.ok 9 _ rfl
theorem PairAt.rpermits (h : PairAt w base E X Y) : S4.RPkAt w Y.pB Y.pf (Y.pn : Int) Y.pk Y.pp := h.ok 10 _ rfl
theorem PairAt.rlinks (h : PairAt w base E X Y) : S5.Has w Y.lB Y.lk := h.ok 11 _ rfl
theorem PairAt.rnotes (h : PairAt w base E X Y) : S11.LAt 104 .i64 w Y.nb Y.nB Y.ns Y.nD := h.ok 12 _ rfl
theorem PairAt.rown (h : PairAt w base E X Y) : w.heap[Y.wB]? = some (.cells Y.cs 68) := h.ok 13 _ rfl
theorem PairAt.r0 (h : PairAt w base E X Y) : w.cell? ⟨Y.wB, 0, none⟩ = some (Pw Y.rB) := (cell_row h.rown 0).trans (rc0 _ _ _ _ _ _ _)
theorem PairAt.r1 (h : PairAt w base E X Y) : w.cell? ⟨Y.wB, 1, none⟩ = some (Pw Y.kB) := (cell_row h.rown 1).trans (rc1 _ _ _ _ _ _ _)
theorem PairAt.r2 (h : PairAt w base E X Y) : w.cell? ⟨Y.wB, 2, none⟩ = some (Pw Y.pB) := (cell_row h.rown 2).trans (rc2 _ _ _ _ _ _ _)
theorem PairAt.r3 (h : PairAt w base E X Y) : w.cell? ⟨Y.wB, 3, none⟩ = some (Pw Y.lB) := (cell_row h.rown 3).trans (rc3 _ _ _ _ _ _ _)
theorem PairAt.r4 (h : PairAt w base E X Y) : w.cell? ⟨Y.wB, 4, none⟩ = some Y.ts := (cell_row h.rown 4).trans (rc4 _ _ _ _ _ _ _)
theorem PairAt.r5 (h : PairAt w base E X Y) : w.cell? ⟨Y.wB, 5, none⟩ = some (Pw Y.nB) := (cell_row h.rown 5).trans (rc5 _ _ _ _ _ _ _)
end
structure Sd where
  L : S2.LL
  n : Nat
  k : Nat
  a : Nat
  was : Nat
  is : Nat
  T : Nat
  most : Nat
  D : List Nat
  pf : Nat → S4.Pk
  pn : Nat
  pk : Int
  pp : Int
  lk : S5.Lk
  m : Int → List S10.Bk
  nD : List Nt
  sp : Int
def Wm.sd (X : Wm) : Sd := ⟨X.L, X.n, X.k, X.a, X.was, X.is, X.T, X.most, X.D, X.pf, X.pn, X.pk, X.pp, X.lk, X.tM, X.nD, X.sp⟩
def Rm.sd (Y : Rm) : Sd := ⟨Y.L, Y.n, Y.k, Y.a, Y.was, Y.is, Y.T, Y.most, Y.D, Y.pf, Y.pn, Y.pk, Y.pp, Y.lk, Y.M, Y.nD, Y.sp⟩
def Sd.acc (M : Sd) (k a y : Nat) : Sd := { M with L := S2.putL M.L a (S2.bring a y), n := M.n + 1, k := k, a := a, was := S2.look M.L a, is := S2.bring a y }
def Sd.store (M : Sd) (a v : Nat) : Sd := M.acc 2 a v
def Sd.tick (M : Sd) (n : Nat) : Sd := { M with T := S3.sat M.T n }
def Sd.tab (M : Sd) (m : Int → List S10.Bk) : Sd := { M with m := m }
structure Bg (w0 w : World) (base WB RB N cn tn : Nat) (M RM : Sd) (E : List Part) (X : Wm) (Y : Rm) : Prop where
  pr : PairAt w base E X Y
  wB : X.wB = WB
  rB : Y.wB = RB
  xn : X.n ≤ cn
  yn : Y.n ≤ cn
  pn : X.pn ≤ cn
  yp : Y.pn ≤ cn
  nD : X.nD.length ≤ cn
  pok : S4.PkOk X.pf
  byt : S2.Byt X.L
  nk : ∀ d ∈ X.nD, d.k < 256
  pkr : 0 ≤ X.pk ∧ X.pk < 256
  xm : X.sd = M
  ym : Y.sd = RM
  gd : S10.Good M.m N
  gr : S10.Good RM.m N
  tn : X.tn ≤ tn
  spk : 0 ≤ M.sp ∧ M.sp ≤ 16
  rb : Y.rb ≤ w.heap.size
  bl : Below base w0 w
def BgE (w0 w : World) (base WB RB N cn tn : Nat) (E : List Part) : Prop := ∃ M X Y, Bg w0 w base WB RB N cn tn M M E X Y
section
variable {w0 w w' : World} {base WB RB N cn tn : Nat} {M RM : Sd} {E : List Part} {X : Wm} {Y : Rm}
theorem Bg.new (h : Bg w0 w base WB RB N cn tn M RM E X Y) (b : Below w.heap.size w w') : Bg w0 w' base WB RB N cn tn M RM E X Y :=
  { h with pr := h.pr.new b, rb := Nat.le_trans h.rb b.size, bl := h.bl.trans (b.mono h.pr.size) }
theorem Bg.c (h : Bg w0 w base WB RB N cn tn M RM E X Y) : w.cell? ⟨WB, 0, none⟩ = some (Pw X.cB) ∧ w.cell? ⟨WB, 1, none⟩ = some (Pw X.kB) ∧ w.cell? ⟨WB, 4, none⟩ = some X.ts ∧ w.cell? ⟨RB, 0, none⟩ = some (Pw Y.rB) ∧ w.cell? ⟨RB, 1, none⟩ = some (Pw Y.kB) ∧ w.cell? ⟨RB, 4, none⟩ = some Y.ts := by
  have hp := h.pr
  rw [← h.wB, ← h.rB]
  exact ⟨hp.pw.c0, hp.pw.c1, hp.pw.c4, hp.r0, hp.r1, hp.r4⟩
theorem Bg.left (h : Bg w0 w base WB RB N cn tn M RM E X Y) {k a y : Nat} (l : S2.Left w w' X.cB X.cM (S2.putL X.L a (S2.bring a y)) (X.n + 1) k a (S2.look X.L a) (S2.bring a y)) :
    ∃ X', Bg w0 w' base WB RB N (cn + 1) tn (M.acc k a y) RM E X' Y ∧ X'.cB = X.cB ∧ X'.ts = X.ts := by
  obtain ⟨M', hp, hb⟩ := t_cells (i := 0) h.pr rfl l
  obtain ⟨_, _, _, t⟩ := l
  refine ⟨{ X with cM := M', L := S2.putL X.L a (S2.bring a y), n := X.n + 1, k := k, a := a, was := S2.look X.L a, is := S2.bring a y }, { h with pr := hp, xn := Nat.succ_le_succ h.xn, yn := Nat.le_succ_of_le h.yn, pn := Nat.le_succ_of_le h.pn, yp := Nat.le_succ_of_le h.yp, nD := Nat.le_succ_of_le h.nD, byt := h.byt.put a y, xm := ?_, gd := ?_, rb := Nat.le_trans h.rb t.size, bl := h.bl.trans hb }, rfl, rfl⟩
  · rw [← h.xm]; rfl
  · exact h.gd
theorem Bg.rleft (h : Bg w0 w base WB RB N cn tn M RM E X Y) {s' : Value} {k a y : Nat} (c : S2.RefAt w' Y.rb Y.rB s' (S2.putL Y.L a (S2.bring a y)) (Y.n + 1) k a (S2.look Y.L a) (S2.bring a y)) (ho : ∀ g, s'.ownBlock = some g → Y.rs.ownBlock = some g ∨ w.heap.size ≤ g) (t : S2.Turns (fun k => k = Y.rB ∨ Y.rs.ownBlock = some k) w w') :
    ∃ Y', Bg w0 w' base WB RB N (cn + 1) tn M (RM.acc k a y) E X Y' ∧ Y'.rB = Y.rB ∧ Y'.ts = Y.ts := by
  obtain ⟨hp, hb⟩ := t_rcells (i := 7) h.pr rfl c ho t
  refine ⟨{ Y with rs := s', L := S2.putL Y.L a (S2.bring a y), n := Y.n + 1, k := k, a := a, was := S2.look Y.L a, is := S2.bring a y }, { h with pr := hp, yn := Nat.succ_le_succ h.yn, xn := Nat.le_succ_of_le h.xn, pn := Nat.le_succ_of_le h.pn, yp := Nat.le_succ_of_le h.yp, nD := Nat.le_succ_of_le h.nD, ym := ?_, gr := ?_, rb := Nat.le_trans h.rb t.size, bl := h.bl.trans hb }, rfl, rfl⟩
  · rw [← h.ym]; rfl
  · exact h.gr
theorem Bg.store (h : Bg w0 w base WB RB N cn tn M RM E X Y) {a v : Nat} (ha : a < 4294967296) (hv : v < 18446744073709551616) (hc : cn ≤ 100000000) :
    Calls Tryz.prog 54 #[Pw X.cB, .int .u32 a, .int .u64 v] w fun e w' => e = .returned (.int .u64 (S2.look X.L a : Nat)) ∧ ∃ X', Bg w0 w' base WB RB N (cn + 1) tn (M.store a v) RM E X' Y := by
  refine (S2.store_any w X.cB X.cM X.L X.n X.k X.a X.was X.is a v h.pr.pw.cells ha hv (by have := h.xn; omega)).mono ?_
  rintro e w' ⟨rfl, hl⟩
  obtain ⟨X', h', _, _⟩ := h.left hl
  exact ⟨rfl, X', h'⟩
theorem Bg.rstore (h : Bg w0 w base WB RB N cn tn M RM E X Y) {a v : Nat} (ha : a < 4294967296) (hv : v < 18446744073709551616) (hc : cn ≤ 100000000) :
    Calls Tryz.prog 82 #[Pw Y.rB, .int .u32 a, .int .u64 v] w fun e w' => e = .returned (.int .u64 (S2.look Y.L a : Nat)) ∧ ∃ Y', Bg w0 w' base WB RB N (cn + 1) tn M (RM.store a v) E X Y' := by
  refine (S2.rstore_any w Y.rb Y.rB Y.rs Y.L Y.n Y.k Y.a Y.was Y.is a v h.pr.rcells h.rb ha (by have := h.yn; omega) hv).mono ?_
  rintro e w' ⟨rfl, s', hc', ho, t⟩
  obtain ⟨Y', h', _, _⟩ := h.rleft hc' (fun g hg => .inr (ho g hg)) (t.mono (fun k _ e => .inl e))
  exact ⟨rfl, Y', h'⟩
theorem Bg.tickd (h : Bg w0 w base WB RB N cn tn M RM E X Y) {n : Nat} (hc : S3.ClockAt w' X.kb X.kB (S3.sat X.T n) X.most X.ks X.D) (t : S3.Turns (fun k => k = X.kB) w w') : ∃ X', Bg w0 w' base WB RB N cn tn (M.tick n) RM E X' Y := by
  obtain ⟨hp, hb⟩ := t_clock (i := 1) h.pr rfl hc (fun g hg => .inl hg) (t.mono (fun k _ e => .inl e))
  refine ⟨{ X with T := S3.sat X.T n }, { h with pr := hp, xm := ?_, gd := ?_, rb := Nat.le_trans h.rb t.size, bl := h.bl.trans hb }⟩
  · rw [← h.xm]; rfl
  · exact h.gd
theorem Bg.tick (h : Bg w0 w base WB RB N cn tn M RM E X Y) {n : Nat} (hn : n ≤ 18446744073709551615) :
    Calls Tryz.prog 60 #[Pw X.kB, .int .u64 n] w fun e w' => e = .returned (.tuple #[]) ∧ ∃ X', Bg w0 w' base WB RB N cn tn (M.tick n) RM E X' Y := by
  refine (S3.tick_any h.pr.pw.clock n hn).mono ?_
  rintro e w' ⟨rfl, hc, t⟩
  exact ⟨rfl, h.tickd hc t⟩
theorem Bg.rtick (h : Bg w0 w base WB RB N cn tn M RM E X Y) {n : Nat} (hn : n ≤ 18446744073709551615) :
    Calls Tryz.prog 61 #[Pw Y.kB, .int .u64 n] w fun e w' => e = .returned (.tuple #[]) ∧ ∃ Y', Bg w0 w' base WB RB N cn tn M (RM.tick n) E X Y' := by
  refine (S3.rtick_any h.pr.rclock n hn).mono ?_
  rintro e w' ⟨rfl, hc, t⟩
  obtain ⟨hp, hb⟩ := t_rclock (i := 8) h.pr rfl hc (fun g hg => .inl hg) (t.mono (fun k _ e => .inl e))
  refine ⟨rfl, { Y with T := S3.sat Y.T n }, { h with pr := hp, ym := ?_, gr := ?_, rb := Nat.le_trans h.rb t.size, bl := h.bl.trans hb }⟩
  · rw [← h.ym]; rfl
  · exact h.gr
theorem Bg.mono (h : Bg w0 w base WB RB N cn tn M RM E X Y) {N' cn' tn' : Nat} (h1 : N ≤ N') (h2 : cn ≤ cn') (h3 : tn ≤ tn') : Bg w0 w base WB RB N' cn' tn' M RM E X Y :=
  { h with xn := Nat.le_trans h.xn h2, yn := Nat.le_trans h.yn h2, pn := Nat.le_trans h.pn h2, yp := Nat.le_trans h.yp h2, nD := Nat.le_trans h.nD h2, gd := h.gd.mono h1, gr := h.gr.mono h1, tn := Nat.le_trans h.tn h3 }
theorem Bg.tab (h : Bg w0 w base WB RB N cn tn M RM E X Y) {own' : Nat → Option S10.Role} {n' : Nat} {M' : Int → List S10.Bk} (hs : S10.St w' X.tb own' X.ts n' M') (t : S10.Turns (S10.Mine X.tO) w w') (f : S10.Fresh X.tO own' w) (g : S10.Good M' N) (hn : n' ≤ tn) :
    Bg w0 w' base WB RB N cn tn (M.tab M') RM E { X with tO := own', tn := n', tM := M' } Y := by
  obtain ⟨hp, hb⟩ := t_tables (i := 4) h.pr rfl hs t f
  refine { h with pr := hp, xm := ?_, gd := g, tn := hn, rb := Nat.le_trans h.rb t.size, bl := h.bl.trans hb }
  rw [← h.xm]; rfl
theorem Bg.rtab (h : Bg w0 w base WB RB N cn tn M RM E X Y) {own' : Nat → Option S10.Role} {M' : Int → List S10.Bk} (hs : S10.Rt w' Y.tb own' Y.ts M') (t : S10.Turns (S10.Mine Y.tO) w w') (f : S10.Fresh Y.tO own' w) (g : S10.Good M' N) :
    Bg w0 w' base WB RB N cn tn M (RM.tab M') E X { Y with tO := own', M := M' } := by
  obtain ⟨hp, hb⟩ := t_rtables (i := 9) h.pr rfl hs t f
  refine { h with pr := hp, ym := ?_, gr := g, rb := Nat.le_trans h.rb t.size, bl := h.bl.trans hb }
  rw [← h.ym]; rfl
theorem Bg.st (h : Bg w0 w base WB RB N cn tn M RM E X Y) : S10.St w X.tb X.tO X.ts X.tn M.m := by have := h.pr.pw.tables; rw [← h.xm]; exact this
theorem Bg.rt (h : Bg w0 w base WB RB N cn tn M RM E X Y) : S10.Rt w Y.tb Y.tO Y.ts RM.m := by have := h.pr.rtables; rw [← h.ym]; exact this
theorem Bg.push (h : Bg w0 w base WB RB N cn tn M RM E X Y) (q : Part) (b : Below w.heap.size w w') (hq : q.ok w') (hf : ∀ k, q.fp k → w.heap.size ≤ k) : Bg w0 w' base WB RB N cn tn M RM (E ++ [q]) X Y := by
  have hp := Parts.push h.pr q b hq hf
  rw [List.append_assoc, List.append_assoc] at hp
  exact { h with pr := hp, rb := Nat.le_trans h.rb b.size, bl := h.bl.trans (b.mono h.pr.size) }
theorem Bg.drop (h : Bg w0 w base WB RB N cn tn M RM E X Y) : Bg w0 w base WB RB N cn tn M RM [] X Y := by
  have hp := h.pr
  unfold PairAt at hp
  rw [← List.append_assoc] at hp
  have hp2 := Parts.left hp
  refine { h with pr := ?_ }
  unfold PairAt
  rw [List.append_nil]
  exact hp2
end
theorem bg_grow {E : List Part} {M : Sd} {N : Nat} (g : S10.Good M.m N) (hN : N ≤ 100000) {fr tg : Int} (hf : S10.InI fr) (ht : S10.InI tg) : ∃ (a : Bool) (M' : Sd), (a = false → M' = M) ∧ (a = true → 2 ≤ tg ∧ tg ≤ 8) ∧
    (∀ w0 w base WB RB cn tn X Y, Bg w0 w base WB RB N cn tn M M E X Y → Calls Tryz.prog 13 #[Y.ts, .int .i64 fr, .int .i64 tg, .int .u64 0] w fun e w' => e = .returned (.bool a) ∧ ∃ Y', Bg w0 w' base WB RB N cn tn M M' E X Y' ∧ Y'.ts = Y.ts) ∧
    (∀ w0 w base WB RB cn tn X Y, tn < 1000 → Bg w0 w base WB RB N cn tn M M' E X Y → Calls Tryz.prog 14 #[X.ts, .int .i64 fr, .int .i64 tg, .int .u64 0] w fun e w' => e = .returned (.bool a) ∧ ∃ X', Bg w0 w' base WB RB N cn (tn + 1) M' M' E X' Y ∧ X'.ts = X.ts) := by
  obtain ⟨a, M', hg, h1, h2, h3, h4⟩ := S10.grow_all2 g hN hf ht 0
  refine ⟨a, M.tab M', fun e => by rw [h1 e]; rfl, h2, fun w0 w base WB RB cn tn X Y h => ?_, fun w0 w base WB RB cn tn X Y htn h => ?_⟩
  · refine (h4 w _ _ _ h.rt).mono ?_
    rintro e w' ⟨rfl, own', hs, t, f⟩
    exact ⟨rfl, _, h.rtab hs t f hg, rfl⟩
  · refine (h3 w _ _ _ _ (by have := h.tn; omega) h.st).mono ?_
    rintro e w' ⟨rfl, own', hs, t, f⟩
    have h' := h.mono (Nat.le_refl N) (Nat.le_refl cn) (Nat.le_succ tn)
    exact ⟨rfl, _, h'.tab hs t f hg (by have := h.tn; omega), rfl⟩
theorem bg_put {E : List Part} {M : Sd} {N : Nat} (g : S10.Good M.m N) {b : Int} (hb : S10.InI b) (i : Int) {D : List S10.Ent} (hk : S10.Keys D) (hD : D.length ≤ 60) : ∃ (a : Bool) (M' : Sd),
    (∀ w0 w base WB RB cn tn X Y b0 A c, Bg w0 w base WB RB N cn tn M M E X Y → S10.Rd w b0 A (S10.flat D) → b0 ≤ w.heap.size → Calls Tryz.prog 17 #[X.ts, .agg #[.int .i64 b, .int .i64 i], .slice A D.length c] w fun e w' => e = .returned (.bool a) ∧ ∃ X', Bg w0 w' base WB RB (N + 60) cn tn M' M E X' Y ∧ X'.ts = X.ts) ∧
    (∀ w0 w base WB RB cn tn X Y b0 A c, Bg w0 w base WB RB (N + 60) cn tn M' M E X Y → S10.Rd w b0 A (S10.flat D) → b0 ≤ w.heap.size → Calls Tryz.prog 18 #[Y.ts, .agg #[.int .i64 b, .int .i64 i], .slice A D.length c] w fun e w' => e = .returned (.bool a) ∧ ∃ Y', Bg w0 w' base WB RB (N + 60) cn tn M' M' E X Y' ∧ Y'.ts = Y.ts) := by
  obtain ⟨a, M', hg, h3, h4⟩ := S10.put_all g hb i hk hD
  refine ⟨a, M.tab M', fun w0 w base WB RB cn tn X Y b0 A c h hr h0 => ?_, fun w0 w base WB RB cn tn X Y b0 A c h hr h0 => ?_⟩
  · refine (h3 w _ _ _ _ b0 A c h.st hr h0).mono ?_
    rintro e w' ⟨rfl, own', hs, t, f⟩
    exact ⟨rfl, _, (h.mono (Nat.le_add_right N 60) (Nat.le_refl _) (Nat.le_refl _)).tab hs t f hg h.tn, rfl⟩
  · refine (h4 w _ _ _ b0 A c h.rt hr h0).mono ?_
    rintro e w' ⟨rfl, own', hs, t, f⟩
    exact ⟨rfl, _, h.rtab hs t f hg, rfl⟩
theorem bg_putT {E : List Part} {M : Sd} {N : Nat} (g : S10.Good M.m N) {b : Int} (hb : S10.InI b) (i ta tf : Int) : ∃ (a : Bool) (M' : Sd),
    (∀ w0 w base WB RB cn tn X Y, Bg w0 w base WB RB N cn tn M M E X Y → Calls Tryz.prog 20 #[X.ts, .agg #[.int .i64 b, .int .i64 i], .agg #[.int .u64 ta, .int .u64 tf]] w fun e w' => e = .returned (.bool a) ∧ ∃ X', Bg w0 w' base WB RB N cn tn M' M E X' Y ∧ X'.ts = X.ts) ∧
    (∀ w0 w base WB RB cn tn X Y, Bg w0 w base WB RB N cn tn M' M E X Y → Calls Tryz.prog 21 #[Y.ts, .agg #[.int .i64 b, .int .i64 i], .agg #[.int .u64 ta, .int .u64 tf]] w fun e w' => e = .returned (.bool a) ∧ ∃ Y', Bg w0 w' base WB RB N cn tn M' M' E X Y' ∧ Y'.ts = Y.ts) := by
  obtain ⟨a, M', hg, h3, h4⟩ := S10.putT_all g hb i ta tf
  refine ⟨a, M.tab M', fun w0 w base WB RB cn tn X Y h => ?_, fun w0 w base WB RB cn tn X Y h => ?_⟩
  · refine (h3 w _ _ _ _ h.st).mono ?_
    rintro e w' ⟨rfl, hs, t⟩
    exact ⟨rfl, _, h.tab hs t (S10.Fresh.refl _ _) hg h.tn, rfl⟩
  · refine (h4 w _ _ _ h.rt).mono ?_
    rintro e w' ⟨rfl, hs, t⟩
    exact ⟨rfl, _, h.rtab hs t (S10.Fresh.refl _ _) hg, rfl⟩
end Go.Proofs.YtdodloannlfnlaaGreat.S12
namespace Go.Proofs.YtdodloannlfnlaaGreat.S1
open Go.Proofs.YtdodloannlfnlaaGreat Go.Proofs.YtdodloannlfnlaaGreat.S11
open Go.RowKit Go.Lib

theorem nand_pow (x i : Nat) : x &&& 2 ^ i = x / 2 ^ i % 2 * 2 ^ i := by
  have ht := @Nat.testBit_eq_decide_div_mod_eq i x
  apply Nat.eq_of_testBit_eq
  intro j
  rw [Nat.testBit_and, Nat.testBit_two_pow]
  have h : x / 2 ^ i % 2 = 0 ∨ x / 2 ^ i % 2 = 1 := by omega
  by_cases hj : i = j
  · subst hj
    rcases h with h | h
    · rw [h] at ht ⊢; simp at ht ⊢; exact ht
    · rw [h] at ht ⊢; simp at ht ⊢; exact ht
  · rcases h with h | h
    · rw [h]; simp [hj]
    · rw [h, Nat.one_mul, Nat.testBit_two_pow]; simp [hj]
theorem and_pow (x i : Nat) (hx : x < 18446744073709551616) (hi : 2 ^ i < 18446744073709551616) : bits .and .u64 (x : Int) ((2 ^ i : Nat) : Int) = ((x / 2 ^ i % 2 * 2 ^ i : Nat) : Int) := by
  rw [bits_and_u64_nat x (2 ^ i) hx hi, nand_pow]
theorem half_pow (u k : Nat) : u / 2 ^ k / 2 = u / 2 ^ (k + 1) := by
  rw [Nat.div_div_eq_div_mul, Nat.pow_succ]
theorem div_le' (u k : Nat) : u / 2 ^ k ≤ u := Nat.div_le_self _ _
def bitB (u n : Nat) : Bool := decide (u / 2 ^ n % 2 = 1)
theorem ret_int {k : IntKind} {a b : Int} (h : a = b) : Ending.returned (.int k a) = .returned (.int k b) := by rw [h]
def putN (l q : Bool) (h : Int) : Int := (if 0 ≤ h ∧ h ≤ 63 then 4 * (h + 1) else 0) + (if l then 1 else 0) + (if q then 2 else 0)
theorem or_low (a : Nat) (ha : a ≤ 3) (h : Int) (h0 : 0 ≤ h) (h1 : h ≤ 63) : bits .or .u64 (a : Int) ((h + 1) * 4) = (h + 1) * 4 + a := by
  obtain ⟨n, rfl⟩ := Int.eq_ofNat_of_zero_le h0
  have e : ((n : Int) + 1) * 4 = (((n + 1) * 4 : Nat) : Int) := by omega
  rw [e, bits_or_u64_nat a ((n + 1) * 4) (by omega) (by omega), Nat.or_comm, show (n + 1) * 4 = 2 ^ 2 * (n + 1) by omega, ← Nat.two_pow_add_eq_or_of_lt (by omega)]
  omega
theorem put_any (l q : Bool) (h : Int) (hh : -9223372036854775808 ≤ h) (hh2 : h ≤ 9223372036854775807) (w : World) :
    Calls Tryz.prog 171 #[.agg #[.bool l, .bool q, .int .i64 h]] w fun e w' => e = .returned (.int .u64 (putN l q h)) ∧ Below w.heap.size w w' := by
  have b1 : bits .or .u64 0 1 = 1 := by decide
  have b2 : bits .or .u64 0 2 = 2 := by decide
  have b3 : bits .or .u64 1 2 = 3 := by decide
  by_cases c1 : 0 ≤ h
  · by_cases c2 : h < 64
    · have o0 : bits .or .u64 0 ((h + 1) * 4) = (h + 1) * 4 + 0 := or_low 0 (by omega) h c1 (by omega)
      have o1 : bits .or .u64 1 ((h + 1) * 4) = (h + 1) * 4 + 1 := or_low 1 (by omega) h c1 (by omega)
      have o2 : bits .or .u64 2 ((h + 1) * 4) = (h + 1) * 4 + 2 := or_low 2 (by omega) h c1 (by omega)
      have o3 : bits .or .u64 3 ((h + 1) * 4) = (h + 1) * 4 + 3 := or_low 3 (by omega) h c1 (by omega)
      cases l <;> cases q
      all_goals
        go_enter Tryz.func171, Tryz.ntmps171
        go_wp2
        go_ret
        exact ⟨ret_int (by unfold putN; rw [if_pos ⟨c1, by omega⟩]; simp; try omega), (Below.refl _ _).alloc (Nat.le_refl _) _⟩
    · cases l <;> cases q
      all_goals
        go_enter Tryz.func171, Tryz.ntmps171
        go_wp2
        go_ret
        exact ⟨ret_int (by unfold putN; rw [if_neg (by omega)]; rfl), (Below.refl _ _).alloc (Nat.le_refl _) _⟩
  · cases l <;> cases q
    all_goals
      go_enter Tryz.func171, Tryz.ntmps171
      go_wp2
      go_ret
      exact ⟨ret_int (by unfold putN; rw [if_neg (by omega)]; rfl), (Below.refl _ _).alloc (Nat.le_refl _) _⟩
def headN (u : Nat) : Int := if 1 ≤ u / 4 ∧ u / 4 ≤ 64 then ((u / 4 : Nat) : Int) - 1 else -1
def asV (u : Nat) : Value := .agg #[.bool (bitB u 0), .bool (bitB u 1), .int .i64 (headN u)]
theorem bitB_eq (u n d : Nat) (hd : 2 ^ n = d) (b : Bool) (h : (u / d % 2 == 1) = b) : bitB u n = b := by
  subst hd; subst h; unfold bitB; by_cases h : u / 2 ^ n % 2 = 1 <;> simp [h]
set_option maxHeartbeats 1000000 in
theorem as_any (u : Nat) (hu : u < 18446744073709551616) (w : World) :
    Calls Tryz.prog 175 #[.int .u64 u] w fun e w' => e = .returned (asV u) ∧ Below w.heap.size w w' := by
  have p0 : bits .and .u64 (u : Int) 1 = ((u / 1 % 2 * 1 : Nat) : Int) := and_pow u 0 hu (by decide)
  have p1 : bits .and .u64 (u : Int) 2 = ((u / 2 % 2 * 2 : Nat) : Int) := and_pow u 1 hu (by decide)
  have c0 : u / 1 % 2 = 0 ∨ u / 1 % 2 = 1 := by omega
  have c1 : u / 2 % 2 = 0 ∨ u / 2 % 2 = 1 := by omega
  rcases c0 with c0 | c0 <;> rcases c1 with c1 | c1
  all_goals
    rw [c0] at p0
    rw [c1] at p1
    have q0 := bitB_eq u 0 1 rfl _ rfl
    have q1 := bitB_eq u 1 2 rfl _ rfl
    rw [c0] at q0
    rw [c1] at q1
    simp at p0 p1
    have Q0 := Lib.hid q0
    have Q1 := Lib.hid q1
    clear q0 q1 c0 c1
    by_cases h1 : 1 ≤ u / 4
    · by_cases h2 : u / 4 ≤ 64
      · go_enter Tryz.func175, Tryz.ntmps175
        go_wp2
        refine bodyPost_ret (v := .agg #[.bool _, .bool _, .int .i64 _]) (by simp [results, Tryz.results175, go_sem]; exact ⟨rfl, rfl, rfl⟩) rfl ⟨?_, (Below.refl _ _).alloc (Nat.le_refl _) _⟩
        unfold asV headN
        rw [Q0.out, Q1.out, if_pos ⟨h1, h2⟩]
        rfl
      · go_enter Tryz.func175, Tryz.ntmps175
        go_wp2
        refine bodyPost_ret (v := .agg #[.bool _, .bool _, .int .i64 _]) (by simp [results, Tryz.results175, go_sem]; exact ⟨rfl, rfl, rfl⟩) rfl ⟨?_, (Below.refl _ _).alloc (Nat.le_refl _) _⟩
        unfold asV headN
        rw [Q0.out, Q1.out, if_neg (by omega)]
        rfl
    · go_enter Tryz.func175, Tryz.ntmps175
      go_wp2
      refine bodyPost_ret (v := .agg #[.bool _, .bool _, .int .i64 _]) (by simp [results, Tryz.results175, go_sem]; exact ⟨rfl, rfl, rfl⟩) rfl ⟨?_, (Below.refl _ _).alloc (Nat.le_refl _) _⟩
      unfold asV headN
      rw [Q0.out, Q1.out, if_neg (by omega)]
      rfl
def isHead (h : Int) : Prop := -1 ≤ h ∧ h ≤ 63
theorem put_nat (l q : Bool) (h : Int) (hi : isHead h) : ∃ n : Nat, putN l q h = n ∧ n ≤ 259 ∧ bitB n 0 = l ∧ bitB n 1 = q ∧ headN n = h := by
  obtain ⟨i1, i2⟩ := hi
  unfold putN bitB headN
  by_cases c : 0 ≤ h
  · obtain ⟨k, rfl⟩ := Int.eq_ofNat_of_zero_le c
    rw [if_pos ⟨c, i2⟩]
    cases l <;> cases q
    · refine ⟨4 * (k + 1), by simp, by omega, ?_, ?_, ?_⟩
      · simp; omega
      · simp; omega
      · rw [if_pos (by omega)]; omega
    · refine ⟨4 * (k + 1) + 2, by simp, by omega, ?_, ?_, ?_⟩
      · simp; omega
      · simp; omega
      · rw [if_pos (by omega)]; omega
    · refine ⟨4 * (k + 1) + 1, by simp, by omega, ?_, ?_, ?_⟩
      · simp; omega
      · simp; omega
      · rw [if_pos (by omega)]; omega
    · refine ⟨4 * (k + 1) + 3, by simp; omega, by omega, ?_, ?_, ?_⟩
      · simp; omega
      · simp; omega
      · rw [if_pos (by omega)]; omega
  · have e : h = -1 := by omega
    subst e
    rw [if_neg (by omega)]
    cases l <;> cases q
    · exact ⟨0, by decide, by decide, by decide, by decide, by decide⟩
    · exact ⟨2, by decide, by decide, by decide, by decide, by decide⟩
    · exact ⟨1, by decide, by decide, by decide, by decide, by decide⟩
    · exact ⟨3, by decide, by decide, by decide, by decide, by decide⟩
theorem put_as (u : Nat) (hu : u ≤ 259) : putN (bitB u 0) (bitB u 1) (headN u) = u := by
  unfold putN bitB headN
  by_cases c : 1 ≤ u / 4
  · rw [if_pos (show 1 ≤ u / 4 ∧ u / 4 ≤ 64 from ⟨c, by omega⟩), if_pos (by omega)]
    by_cases d : u / 2 ^ 0 % 2 = 1 <;> by_cases d2 : u / 2 ^ 1 % 2 = 1 <;> simp [d, d2] <;> simp at d d2 <;> omega
  · rw [if_neg (show ¬ (1 ≤ u / 4 ∧ u / 4 ≤ 64) by omega), if_neg (by omega)]
    by_cases d : u / 2 ^ 0 % 2 = 1 <;> by_cases d2 : u / 2 ^ 1 % 2 = 1 <;> simp [d, d2] <;> simp at d d2 <;> omega
theorem head_is (u : Nat) : isHead (headN u) := by
  unfold headN isHead; split <;> constructor <;> omega
def putU (l q : Bool) (h : Int) : Nat := (putN l q h).toNat
theorem putN_nat (l q : Bool) (h : Int) : putN l q h = ((putU l q h : Nat) : Int) ∧ putU l q h ≤ 259 := by
  have h0 : 0 ≤ putN l q h ∧ putN l q h ≤ 259 := by
    unfold putN
    by_cases c : 0 ≤ h ∧ h ≤ 63
    · rw [if_pos c]; cases l <;> cases q <;> simp <;> omega
    · rw [if_neg c]; cases l <;> cases q <;> simp
  unfold putU
  omega
theorem putU_any (l q : Bool) (h : Int) (hi : isHead h) (w : World) : Calls Tryz.prog 171 #[.agg #[.bool l, .bool q, .int .i64 h]] w fun e w' => e = .returned (.int .u64 ((putU l q h : Nat) : Int)) ∧ Below w.heap.size w w' := by
  rw [← (putN_nat l q h).1]
  exact put_any l q h (by unfold isHead at hi; omega) (by unfold isHead at hi; omega) w
theorem putU_lt (l q : Bool) (h : Int) : putU l q h < 18446744073709551616 := by have := (putN_nat l q h).2; omega
theorem putU_one : putU true false (-1) = 1 := by decide
end Go.Proofs.YtdodloannlfnlaaGreat.S1
namespace Go.Proofs.YtdodloannlfnlaaGreat.S12
open Go.Proofs.YtdodloannlfnlaaGreat Go.Proofs.YtdodloannlfnlaaGreat.S11
open Go.RowKit

def Sd.call (M : Sd) (k p : Int) (f : Nat → S4.Pk) : Sd := { M with pf := f, pn := M.pn + 1, pk := k, pp := p }
def Sd.prep (M : Sd) (i : Nat) : Sd := M.call 1 (i : Int) (S4.updP M.pf i S4.pk0)
def Sd.park (M : Sd) (i : Nat) : Sd := M.call 2 (i : Int) (S4.updP M.pf i (S4.parkK (M.pf i)))
def Sd.unpark (M : Sd) (i : Nat) : Sd := M.call 4 (i : Int) (S4.updP M.pf i { M.pf i with p := true })
def Sd.link (M : Sd) (S : S5.Lk) : Sd := { M with lk := S }
structure Pg (w0 w : World) (base WB : Nat) (M : Sd) (r : List Part) (X : Wm) : Prop where
  ps : Parts w base (X.parts ++ r)
  wB : X.wB = WB
  xm : X.sd = M
  bl : Below base w0 w
  tnb : X.tn ≤ X.n + 1
section
variable {w0 w w' : World} {base WB : Nat} {M : Sd} {r : List Part} {X : Wm}
theorem Pg.pw (h : Pg w0 w base WB M r X) : PW w base X := Parts.left h.ps
theorem Pg.new (h : Pg w0 w base WB M r X) (b : Below w.heap.size w w') : Pg w0 w' base WB M r X := ⟨h.ps.new b, h.wB, h.xm, h.bl.trans (b.mono h.ps.size), h.tnb⟩
theorem Pg.size (h : Pg w0 w base WB M r X) : base ≤ w.heap.size := h.ps.size
theorem Pg.part (h : Pg w0 w base WB M r X) {j : Nat} {p : Part} (hj : r[j]? = some p) : (X.parts ++ r)[7 + j]? = some p := by
  rw [List.getElem?_append_right (by show 7 ≤ 7 + j; omega)]
  show r[7 + j - 7]? = _
  rw [Nat.add_sub_cancel_left]; exact hj
theorem Pg.turn (h : Pg w0 w base WB M r X) {j : Nat} {p : Part} (hj : r[j]? = some p) (q : Part) (hq : q.ok w') (t : Turns p.fp w w') (hf : ∀ k, q.fp k → p.fp k ∨ w.heap.size ≤ k) : Pg w0 w' base WB M (r.set j q) X := by
  obtain ⟨hp, hb⟩ := h.ps.turn (h.part hj) q hq t hf
  refine ⟨?_, h.wB, h.xm, h.bl.trans hb, h.tnb⟩
  rw [List.set_append_right _ _ (by show 7 ≤ 7 + j; omega)] at hp
  have e : 7 + j - X.parts.length = j := by show 7 + j - 7 = j; omega
  rwa [e] at hp
theorem Pg.left (h : Pg w0 w base WB M r X) {k a y : Nat} (l : S2.Left w w' X.cB X.cM (S2.putL X.L a (S2.bring a y)) (X.n + 1) k a (S2.look X.L a) (S2.bring a y)) :
    ∃ X', Pg w0 w' base WB (M.acc k a y) r X' ∧ X'.cB = X.cB := by
  obtain ⟨M', hp, hb⟩ := t_cells (i := 0) h.ps rfl l
  refine ⟨{ X with cM := M', L := S2.putL X.L a (S2.bring a y), n := X.n + 1, k := k, a := a, was := S2.look X.L a, is := S2.bring a y }, ⟨hp, h.wB, ?_, h.bl.trans hb, Nat.le_succ_of_le h.tnb⟩, rfl⟩
  rw [← h.xm]; rfl
theorem Pg.perm (h : Pg w0 w base WB M r X) {k p : Int} {f : Nat → S4.Pk} (l : S4.PSets w w' X.pB f ((X.pn : Int) + 1) k p) : ∃ X', Pg w0 w' base WB (M.call k p f) r X' ∧ X'.pB = X.pB := by
  obtain ⟨hp, hb⟩ := t_permits (i := 2) h.ps rfl l
  refine ⟨{ X with pf := f, pn := X.pn + 1, pk := k, pp := p }, ⟨hp, h.wB, ?_, h.bl.trans hb, h.tnb⟩, rfl⟩
  rw [← h.xm]; rfl
theorem Pg.links (h : Pg w0 w base WB M r X) {S : S5.Lk} (l : S5.Sets w w' X.lB S) : ∃ X', Pg w0 w' base WB (M.link S) r X' ∧ X'.lB = X.lB := by
  obtain ⟨hp, hb⟩ := t_links (i := 3) h.ps rfl l
  refine ⟨{ X with lk := S }, ⟨hp, h.wB, ?_, h.bl.trans hb, h.tnb⟩, rfl⟩
  rw [← h.xm]; rfl
theorem Pg.c (h : Pg w0 w base WB M r X) : w.cell? ⟨WB, 0, none⟩ = some (Pw X.cB) ∧ w.cell? ⟨WB, 2, none⟩ = some (Pw X.pB) ∧ w.cell? ⟨WB, 3, none⟩ = some (Pw X.lB) ∧ w.cell? ⟨WB, 6, none⟩ = some (.int .i64 M.sp) := by
  rw [← h.wB, ← h.xm]
  exact ⟨h.pw.c0, h.pw.c2, h.pw.c3, h.pw.c6⟩
theorem Pg.cas (h : Pg w0 w base WB M r X) {a u v : Nat} (ha : a < 4294967296) (hv : v < 18446744073709551616) (hn : M.n ≤ 1000000000) :
    Calls Tryz.prog 172 #[Pw X.cB, .int .u32 a, .int .u64 u, .int .u64 v] w fun e w' => e = .returned (.tuple #[.int .u64 (S2.look M.L a : Nat), .bool (decide (S2.look M.L a = u))]) ∧ ∃ X', Pg w0 w' base WB (M.acc 3 a (S2.casV (S2.look M.L a) u v)) r X' ∧ X'.cB = X.cB := by
  have e : X.L = M.L := congrArg Sd.L h.xm
  have e2 : X.n = M.n := congrArg Sd.n h.xm
  rw [← e]
  refine (S2.cas_any w X.cB X.cM X.L X.n X.k X.a X.was X.is a u v h.pw.cells ha hv (by omega)).mono ?_
  rintro e w' ⟨rfl, hl⟩
  exact ⟨rfl, h.left hl⟩
theorem Pg.load (h : Pg w0 w base WB M r X) {a : Nat} (ha : a < 4294967296) (hn : M.n ≤ 1000000000) :
    Calls Tryz.prog 161 #[Pw X.cB, .int .u32 a] w fun e w' => e = .returned (.int .u64 (S2.look M.L a : Nat)) ∧ ∃ X', Pg w0 w' base WB (M.acc 1 a (S2.look M.L a)) r X' ∧ X'.cB = X.cB := by
  have e : X.L = M.L := congrArg Sd.L h.xm
  have e2 : X.n = M.n := congrArg Sd.n h.xm
  rw [← e]
  refine (S2.load_any w X.cB X.cM X.L X.n X.k X.a X.was X.is a h.pw.cells ha (by omega)).mono ?_
  rintro e w' ⟨rfl, hl⟩
  exact ⟨rfl, h.left hl⟩
theorem Pg.store (h : Pg w0 w base WB M r X) {a v : Nat} (ha : a < 4294967296) (hv : v < 18446744073709551616) (hn : M.n ≤ 1000000000) :
    Calls Tryz.prog 54 #[Pw X.cB, .int .u32 a, .int .u64 v] w fun e w' => e = .returned (.int .u64 (S2.look M.L a : Nat)) ∧ ∃ X', Pg w0 w' base WB (M.acc 2 a v) r X' ∧ X'.cB = X.cB := by
  have e : X.L = M.L := congrArg Sd.L h.xm
  have e2 : X.n = M.n := congrArg Sd.n h.xm
  rw [← e]
  refine (S2.store_any w X.cB X.cM X.L X.n X.k X.a X.was X.is a v h.pw.cells ha hv (by omega)).mono ?_
  rintro e w' ⟨rfl, hl⟩
  exact ⟨rfl, h.left hl⟩
theorem Pg.prep (h : Pg w0 w base WB M r X) (hn : M.pn ≤ 1000000000) {i : Nat} (hi : i < 128) :
    Calls Tryz.prog 180 #[Pw X.pB, .int .i64 (i : Int)] w fun e w' => e = .returned (.tuple #[]) ∧ ∃ X', Pg w0 w' base WB (M.prep i) r X' ∧ X'.pB = X.pB := by
  have e2 : X.pn = M.pn := congrArg Sd.pn h.xm
  refine (S4.prepare_yes h.pw.permits (by omega) hi).mono ?_
  rintro e w' ⟨rfl, hl⟩
  rw [show X.pf = M.pf from congrArg Sd.pf h.xm] at hl
  exact ⟨rfl, h.perm hl⟩
theorem Pg.park (h : Pg w0 w base WB M r X) (hn : M.pn ≤ 1000000000) {i : Nat} (hi : i < 128) :
    Calls Tryz.prog 186 #[Pw X.pB, .int .i64 (i : Int)] w fun e w' => e = .returned (.int .u8 (if (M.pf i).p then 1 else 0)) ∧ ∃ X', Pg w0 w' base WB (M.park i) r X' ∧ X'.pB = X.pB := by
  have e2 : X.pn = M.pn := congrArg Sd.pn h.xm
  refine (S4.park_yes h.pw.permits (by omega) hi).mono ?_
  rintro e w' ⟨rfl, hl⟩
  rw [show X.pf = M.pf from congrArg Sd.pf h.xm] at hl ⊢
  exact ⟨rfl, h.perm hl⟩
theorem Pg.unpark (h : Pg w0 w base WB M r X) (hn : M.pn ≤ 1000000000) {i : Nat} (hi : i < 128) :
    Calls Tryz.prog 202 #[Pw X.pB, .int .i64 (i : Int)] w fun e w' => e = .returned (.tuple #[]) ∧ ∃ X', Pg w0 w' base WB (M.unpark i) r X' ∧ X'.pB = X.pB := by
  have e2 : X.pn = M.pn := congrArg Sd.pn h.xm
  refine (S4.unpark_yes h.pw.permits (by omega) hi).mono ?_
  rintro e w' ⟨rfl, hl⟩
  rw [show X.pf = M.pf from congrArg Sd.pf h.xm] at hl
  exact ⟨rfl, h.perm hl⟩
theorem Pg.push (h : Pg w0 w base WB M r X) {x y : Int} {t hd : Option Nat} (hx : S5.Num x t) (hy : S5.Num y hd) :
    Calls Tryz.prog 149 #[Pw X.lB, .int .i64 x, .int .i64 y] w fun e w' => e = .returned (.tuple #[]) ∧ ∃ X', Pg w0 w' base WB (M.link (S5.pushS M.lk t hd)) r X' ∧ X'.lB = X.lB := by
  refine (S5.push_any h.pw.links hx hy).mono ?_
  rintro e w' ⟨rfl, hl⟩
  rw [show X.lk = M.lk from congrArg Sd.lk h.xm] at hl
  exact ⟨rfl, h.links hl⟩
end
theorem word_any (t : Nat) (ht : t < 64) (w : World) : Calls Tryz.prog 181 #[.int .i64 (t : Int)] w fun e w' => e = .returned (.int .i64 ((2 * t + 1 : Nat) : Int)) ∧ w = w' := by
  have hof : ∀ W, Calls Tryz.prog 184 #[.int .i64 (t : Int), .int .i64 1] W fun e w' => e = .returned (.int .i64 ((2 * t + 1 : Nat) : Int)) ∧ W = w' := fun W => by
    have h1 : decide ((t : Int) < 0) = false := by simp
    have h2 : decide ((64 : Int) ≤ (t : Int)) = false := by simp; omega
    have h3 : wrap64 (wrap64 (2 * (t : Int)) + 1) = ((2 * t + 1 : Nat) : Int) := by unfold wrap64; omega
    have h4 : wrap64 (2 * (t : Int)) = 2 * (t : Int) := by unfold wrap64; omega
    have h5 : wrap64 (2 * (t : Int) + 1) = ((2 * t + 1 : Nat) : Int) := by unfold wrap64; omega
    go_enter Tryz.func184, Tryz.ntmps184
    go_wp2_with fail
    go_ret
    exact ⟨rfl, rfl⟩
  have HO := Lib.hid hof
  clear hof ht
  go_enter Tryz.func181, Tryz.ntmps181
  go_wp2_with (go_at_call 184; refine (HO.out _).mono ?_; rintro e w1 ⟨rfl, rfl⟩)
  go_ret
  exact ⟨rfl, rfl⟩
end Go.Proofs.YtdodloannlfnlaaGreat.S12
namespace Go.Proofs.YtdodloannlfnlaaGreat.S13
open Go.Proofs.YtdodloannlfnlaaGreat Go.Proofs.YtdodloannlfnlaaGreat.S11 Go.Proofs.YtdodloannlfnlaaGreat.S12
open Go.RowKit

structure Lk where
  ln : Nat
  t : Nat
  a : Nat
  st : Nat
  sp : Int
def lk0 : Lk := ⟨0, 0, 0, 0, 0⟩
def lk1 (t a : Nat) : Lk := ⟨1, t, a, 0, 0⟩
abbrev askV (t a : Nat) : Value := .agg #[.int .i64 (t : Int), .int .u32 (a : Int)]
def nxV (t a : Nat) : Nat → Value
  | 1 => .func (.func 168) #[askV t a] #[]
  | 2 => .func (.func 176) #[askV t a] #[]
  | 3 => .func (.func 178) #[askV t a] #[]
  | 4 => .func (.func 179) #[askV t a] #[]
  | 5 => .func (.func 182) #[askV t a] #[]
  | 6 => .func (.func 185) #[askV t a] #[]
  | _ => .nilFunc
def Lk.cs (K : Lk) : Array Value := #[nxV K.t K.a K.ln, .int .u64 (K.st : Int), .int .i64 K.sp, .bool (decide (K.ln = 6))]
def lockP (B : Nat) (K : Lk) : Part := blockP B (.cells K.cs 292)
def Lk.turn (K : Lk) (u : Nat) : Lk :=
  if S1.bitB u 0 = false then { K with st := u, ln := 2 }
  else if S1.headN u = -1 then (if 0 < K.sp then { K with st := u, ln := 3, sp := K.sp - 1 } else { K with st := u, ln := 4 })
  else { K with st := u, ln := 4 }
structure Wl (w0 w : World) (base WB : Nat) (M : Sd) (r : List Part) (j B : Nat) (K : Lk) (X : Wm) : Prop where
  pg : Pg w0 w base WB M (r.set j (lockP B K)) X
  hj : j < r.length
section
variable {w0 w w' : World} {base WB : Nat} {M : Sd} {r : List Part} {j B : Nat} {K : Lk} {X : Wm}
theorem Wl.new (h : Wl w0 w base WB M r j B K X) (b : Below w.heap.size w w') : Wl w0 w' base WB M r j B K X := ⟨h.pg.new b, h.hj⟩
theorem Wl.part (h : Wl w0 w base WB M r j B K X) : (r.set j (lockP B K))[j]? = some (lockP B K) := List.getElem?_set_self h.hj
theorem Wl.blk (h : Wl w0 w base WB M r j B K X) : w.heap[B]? = some (.cells K.cs 292 (0, 0)) := h.pg.ps.ok _ _ (h.pg.part h.part)
theorem Wl.b0 (h : Wl w0 w base WB M r j B K X) : w.cell? ⟨B, 0, none⟩ = some (nxV K.t K.a K.ln) := cell_row h.blk 0
theorem Wl.b1 (h : Wl w0 w base WB M r j B K X) : w.cell? ⟨B, 1, none⟩ = some (.int .u64 (K.st : Int)) := cell_row h.blk 1
theorem Wl.b2 (h : Wl w0 w base WB M r j B K X) : w.cell? ⟨B, 2, none⟩ = some (.int .i64 K.sp) := cell_row h.blk 2
theorem Wl.b3 (h : Wl w0 w base WB M r j B K X) : w.cell? ⟨B, 3, none⟩ = some (.bool (decide (K.ln = 6))) := cell_row h.blk 3
theorem Wl.fz (h : Wl w0 w base WB M r j B K X) (i : Nat) : w.frozen? ⟨B, i, none⟩ = false := froz_row h.blk i
theorem Wl.put (h : Wl w0 w base WB M r j B K X) (K' : Lk) (hq : w'.heap[B]? = some (.cells K'.cs 292 (0, 0))) (t : Turns (fun k => k = B) w w') : Wl w0 w' base WB M r j B K' X := by
  have := h.pg.turn h.part (lockP B K') hq t (fun k e => .inl e)
  rw [List.set_set] at this
  exact ⟨this, h.hj⟩
theorem set_blk {cs : Array Value} {T : TypeId} (hq : w.heap[B]? = some (.cells cs T (0, 0))) (i : Nat) (v : Value) (cs' : Array Value) (e : cs.setIfInBounds i v = cs') : (w.setCell ⟨B, i, none⟩ v).heap[B]? = some (.cells cs' T (0, 0)) := by
  subst e
  simp [World.setCell, Array.getElem?_modify, hq]
end
end Go.Proofs.YtdodloannlfnlaaGreat.S13
