/- Texts of this seat, one behind the other. -/
import Derived.Test.YtpmafdggbeppcaaGreatDoorMLawVoid1840
set_option linter.unusedVariables false
set_option linter.unusedSimpArgs false
namespace Go.Proofs.YtpmafdggbeppcaaGreatDoor.S12
set_option maxRecDepth 100000
set_option maxHeartbeats 16000000
open Go.Proofs.YtpmafdggbeppcaaGreatDoor Go.Proofs.YtpmafdggbeppcaaGreatDoor.S11
open Go.RowKit
section
variable {spin : Int} {most n cc : Nat} {A : Option Addr} {X : Nat} {D : List Nat} {w0 : World}
def I7 (spin : Int) (most n cc : Nat) (A : Option Addr) (X : Nat) (D : List Nat) (w0 : World) (L : Array Bool) (a : Act) (w : World) : Prop :=
  ∃ (c : Nat) (b0 b1 b2 : Bool) (x20 x21 x26 x28 x30 x31 x33 : Value) (q0 qc qk qt qp ql qn : Part), c ≤ 4 ∧ L = L7 c b0 b1 b2 ∧ a = F7 spin most n cc A X undef x20 x21 x26 x28 x30 x31 x33 undef undef ∧ Below X w0 w ∧ G7 w X (.cells #[.int .i64 spin, .int .u64 (most : Int), .slice A n cc] 115) most D c b0 b1 b2 x20 x21 x26 x28 x30 x31 x33 q0 qc qk qt qp ql qn
theorem step1 {Q : Exit → Act → World → Prop} {S : World → Prop} {w : World} {b0 b1 b2 : Bool} {x20 x21 x26 x28 x30 x31 x33 : Value} {q0 qc qk qt qp ql qn : Part}
    (hb : Below X w0 w) (g : G7 w X (.cells #[.int .i64 spin, .int .u64 (most : Int), .slice A n cc] 115) most D 0 b0 b1 b2 x20 x21 x26 x28 x30 x31 x33 q0 qc qk qt qp ql qn)
    (hS : ∀ w' l, Parts w' X (blockP X (.cells #[.int .i64 spin, .int .u64 (most : Int), .slice A n cc] 115) :: l) → S w') :
    wpOp Tryz.prog R7 Q 1 (fun a' w' => S w' ∧ I7 spin most n cc A X D w0 ((L7 0 b0 b1 b2).setIfInBounds 1 true) a' w') (F7 spin most n cc A X undef x20 x21 x26 x28 x30 x31 x33 undef undef) w := by
  have hq : q0 = emptyP := g.h0
  subst hq
  have hP := g.ps.fill (i := 1) rfl (blockP w.heap.size wordsO) (below1 w wordsO) (heap_alloc_new w _) (fun k e => Nat.le_of_eq e.symm)
  have hb' : Below X w0 (w.alloc wordsO) := hb.alloc g.ps.size _
  have hfin : S (w.alloc wordsO) ∧ I7 spin most n cc A X D w0 ((L7 0 b0 b1 b2).setIfInBounds 1 true) (F7 spin most n cc A X undef (.slice (some ⟨w.heap.size, 0, none⟩) 1 1) x21 x26 x28 x30 x31 x33 undef undef) (w.alloc wordsO) :=
    ⟨hS _ _ hP, 1, b0, b1, b2, _, _, _, _, _, _, _, _, _, _, _, _, _, _, by omega, set1 .., rfl, hb', ⟨hP, ⟨_, rfl, rfl⟩, g.hc, g.hk, g.ht, g.hp, g.hl, g.hn⟩⟩
  have HF := Lib.hid hfin
  clear hfin hP hb' hS hb g
  refine wpOp_step (o := ⟨some 20, .buildSlice 203 1 #[(0, .tmp 19)], 203, "ref.go:40", #[⟨0, .data⟩], none⟩) rfl (fun Kq hKq => ?_)
  have HK := Lib.hid hKq
  clear hKq
  unfold F7
  go_simp
  exact HK.out _ _ HF.out
theorem step9 {Q : Exit → Act → World → Prop} {S : World → Prop} {w : World} {c : Nat} (hc4 : c ≤ 4) {b1 b2 : Bool} {x20 x21 x26 x28 x30 x31 x33 : Value} {q0 qc qk qt qp ql qn : Part}
    (hb : Below X w0 w) (g : G7 w X (.cells #[.int .i64 spin, .int .u64 (most : Int), .slice A n cc] 115) most D c false b1 b2 x20 x21 x26 x28 x30 x31 x33 q0 qc qk qt qp ql qn)
    (hS : ∀ w' l, Parts w' X (blockP X (.cells #[.int .i64 spin, .int .u64 (most : Int), .slice A n cc] 115) :: l) → S w') :
    wpOp Tryz.prog R7 Q 9 (fun a' w' => S w' ∧ I7 spin most n cc A X D w0 ((L7 c false b1 b2).setIfInBounds 9 true) a' w') (F7 spin most n cc A X undef x20 x21 x26 x28 x30 x31 x33 undef undef) w := by
  have hq : qp = emptyP := g.hp
  subst hq
  have hP := g.ps.fill (i := 5) rfl (blockP w.heap.size (.cells Tryz.zeroCells165 165)) (below1 w (.cells Tryz.zeroCells165 165)) (heap_alloc_new w _) (fun k e => Nat.le_of_eq e.symm)
  have hb' : Below X w0 (w.alloc (.cells Tryz.zeroCells165 165)) := hb.alloc g.ps.size _
  have hfin : S (w.alloc (.cells Tryz.zeroCells165 165)) ∧ I7 spin most n cc A X D w0 ((L7 c false b1 b2).setIfInBounds 9 true) (F7 spin most n cc A X undef x20 x21 x26 (.pointer (some ⟨w.heap.size, 0, none⟩)) x30 x31 x33 undef undef) (w.alloc (.cells Tryz.zeroCells165 165)) :=
    ⟨hS _ _ hP, c, true, b1, b2, _, _, _, _, _, _, _, _, _, _, _, _, _, _, hc4, set9 .., rfl, hb', ⟨hP, g.h0, g.hc, g.hk, g.ht, ⟨_, rfl, rfl⟩, g.hl, g.hn⟩⟩
  have HF := Lib.hid hfin
  clear hfin hP hb' hS hb g
  refine wpOp_step (o := ⟨some 28, .box 165 (.tmp 27), 77, "ref.go:40", #[⟨8, .data⟩], none⟩) rfl (fun Kq hKq => ?_)
  have HK := Lib.hid hKq
  clear hKq
  unfold F7
  go_simp
  exact HK.out _ _ HF.out
theorem step11 {Q : Exit → Act → World → Prop} {S : World → Prop} {w : World} {c : Nat} (hc4 : c ≤ 4) {b0 b2 : Bool} {x20 x21 x26 x28 x30 x31 x33 : Value} {q0 qc qk qt qp ql qn : Part}
    (hb : Below X w0 w) (g : G7 w X (.cells #[.int .i64 spin, .int .u64 (most : Int), .slice A n cc] 115) most D c b0 false b2 x20 x21 x26 x28 x30 x31 x33 q0 qc qk qt qp ql qn)
    (hS : ∀ w' l, Parts w' X (blockP X (.cells #[.int .i64 spin, .int .u64 (most : Int), .slice A n cc] 115) :: l) → S w') :
    wpOp Tryz.prog R7 Q 11 (fun a' w' => S w' ∧ I7 spin most n cc A X D w0 ((L7 c b0 false b2).setIfInBounds 11 true) a' w') (F7 spin most n cc A X undef x20 x21 x26 x28 x30 x31 x33 undef undef) w := by
  have hq : ql = emptyP := g.hl
  subst hq
  have hP := g.ps.fill (i := 6) rfl (blockP w.heap.size (.cells Tryz.zeroCells208 208)) (below1 w (.cells Tryz.zeroCells208 208)) (heap_alloc_new w _) (fun k e => Nat.le_of_eq e.symm)
  have hb' : Below X w0 (w.alloc (.cells Tryz.zeroCells208 208)) := hb.alloc g.ps.size _
  have hfin : S (w.alloc (.cells Tryz.zeroCells208 208)) ∧ I7 spin most n cc A X D w0 ((L7 c b0 false b2).setIfInBounds 11 true) (F7 spin most n cc A X undef x20 x21 x26 x28 (.pointer (some ⟨w.heap.size, 0, none⟩)) x31 x33 undef undef) (w.alloc (.cells Tryz.zeroCells208 208)) :=
    ⟨hS _ _ hP, c, b0, true, b2, _, _, _, _, _, _, _, _, _, _, _, _, _, _, hc4, set11 .., rfl, hb', ⟨hP, g.h0, g.hc, g.hk, g.ht, g.hp, ⟨_, rfl, rfl⟩, g.hn⟩⟩
  have HF := Lib.hid hfin
  clear hfin hP hb' hS hb g
  refine wpOp_step (o := ⟨some 30, .box 208 (.tmp 29), 78, "ref.go:40", #[⟨10, .data⟩], none⟩) rfl (fun Kq hKq => ?_)
  have HK := Lib.hid hKq
  clear hKq
  unfold F7
  go_simp
  exact HK.out _ _ HF.out
theorem step14 {Q : Exit → Act → World → Prop} {S : World → Prop} {w : World} {c : Nat} (hc4 : c ≤ 4) {b0 b1 : Bool} {x20 x21 x26 x28 x30 x31 x33 : Value} {q0 qc qk qt qp ql qn : Part}
    (hb : Below X w0 w) (g : G7 w X (.cells #[.int .i64 spin, .int .u64 (most : Int), .slice A n cc] 115) most D c b0 b1 false x20 x21 x26 x28 x30 x31 x33 q0 qc qk qt qp ql qn)
    (hS : ∀ w' l, Parts w' X (blockP X (.cells #[.int .i64 spin, .int .u64 (most : Int), .slice A n cc] 115) :: l) → S w') :
    wpOp Tryz.prog R7 Q 14 (fun a' w' => S w' ∧ I7 spin most n cc A X D w0 ((L7 c b0 b1 false).setIfInBounds 14 true) a' w') (F7 spin most n cc A X undef x20 x21 x26 x28 x30 x31 x33 undef undef) w := by
  have hq : qn = emptyP := g.hn
  subst hq
  have hP := g.ps.fill (i := 7) rfl (blockP w.heap.size (.cells #[.slice none 0 0] 158)) (below1 w (.cells #[.slice none 0 0] 158)) (heap_alloc_new w _) (fun k e => Nat.le_of_eq e.symm)
  have hb' : Below X w0 (w.alloc (.cells #[.slice none 0 0] 158)) := hb.alloc g.ps.size _
  have hfin : S (w.alloc (.cells #[.slice none 0 0] 158)) ∧ I7 spin most n cc A X D w0 ((L7 c b0 b1 false).setIfInBounds 14 true) (F7 spin most n cc A X undef x20 x21 x26 x28 x30 x31 (.pointer (some ⟨w.heap.size, 0, none⟩)) undef undef) (w.alloc (.cells #[.slice none 0 0] 158)) :=
    ⟨hS _ _ hP, c, b0, b1, true, _, _, _, _, _, _, _, _, _, _, _, _, _, _, hc4, set14 .., rfl, hb', ⟨hP, g.h0, g.hc, g.hk, g.ht, g.hp, g.hl, ⟨_, rfl, rfl⟩⟩⟩
  have HF := Lib.hid hfin
  clear hfin hP hb' hS hb g
  refine wpOp_step (o := ⟨some 33, .box 158 (.tmp 32), 80, "ref.go:40", #[⟨13, .data⟩], none⟩) rfl (fun Kq hKq => ?_)
  have HK := Lib.hid hKq
  clear hKq
  unfold F7
  go_simp
  exact HK.out _ _ HF.out
theorem step2 {Q : Exit → Act → World → Prop} {S : World → Prop} {w : World} {b0 b1 b2 : Bool} {x20 x21 x26 x28 x30 x31 x33 : Value} {q0 qc qk qt qp ql qn : Part}
    (hb : Below X w0 w) (g : G7 w X (.cells #[.int .i64 spin, .int .u64 (most : Int), .slice A n cc] 115) most D 1 b0 b1 b2 x20 x21 x26 x28 x30 x31 x33 q0 qc qk qt qp ql qn)
    (hS : ∀ w' l, Parts w' X (blockP X (.cells #[.int .i64 spin, .int .u64 (most : Int), .slice A n cc] 115) :: l) → S w') :
    wpOp Tryz.prog R7 Q 2 (fun a' w' => S w' ∧ I7 spin most n cc A X D w0 ((L7 1 b0 b1 b2).setIfInBounds 2 true) a' w') (F7 spin most n cc A X undef x20 x21 x26 x28 x30 x31 x33 undef undef) w := by
  have hq : qc = emptyP := g.hc
  subst hq
  obtain ⟨B0, hx, hq0⟩ : ∃ B, x20 = .slice (some ⟨B, 0, none⟩) 1 1 ∧ q0 = blockP B wordsO := g.h0
  subst hx
  have hW : w.heap[B0]? = some wordsO := by have := g.ps.ok 1 q0 rfl; rw [hq0] at this; exact this
  have hlt : B0 < w.heap.size := (Array.getElem?_eq_some_iff.1 hW).1
  have hin : S2.WIn w w.heap.size (some ⟨B0, 0, none⟩) 1 (fun _ => 0) (fun _ => 2) := fun _ => ⟨B0, 0, rfl, hlt, fun i hi => by
    obtain rfl : i = 0 := by omega
    exact ⟨cell_row hW 0, cell_row hW 1⟩⟩
  have hcall := S2.rnew_any (some ⟨B0, 0, none⟩) 1 1 (fun _ => 0) (fun _ => 2) (by omega) (fun i _ => ⟨by simp, by simp⟩) w hin
  have HC := Lib.hid hcall
  clear hcall hin hlt hW
  have hfin : ∀ w' (b B : Nat) (s : Value), Below w.heap.size w w' → (rcellsP b B s L02 0 0 0 0 0).ok w' → (∀ k, (rcellsP b B s L02 0 0 0 0 0).fp k → w.heap.size ≤ k) → S w' ∧ I7 spin most n cc A X D w0 ((L7 1 b0 b1 b2).setIfInBounds 2 true) (F7 spin most n cc A X undef (.slice (some ⟨B0, 0, none⟩) 1 1) (.pointer (some ⟨B, 0, none⟩)) x26 x28 x30 x31 x33 undef undef) w' := fun w' b B s hbw hok hfp => by
    have hP := g.ps.fill (i := 2) rfl (rcellsP b B s L02 0 0 0 0 0) hbw hok hfp
    exact ⟨hS _ _ hP, 2, b0, b1, b2, _, _, _, _, _, _, _, _, _, _, _, _, _, _, by omega, set2 .., rfl, hb.trans (hbw.mono g.ps.size), ⟨hP, g.h0, ⟨_, _, _, rfl, rfl⟩, g.hk, g.ht, g.hp, g.hl, g.hn⟩⟩
  have HF := Lib.hid hfin
  clear hfin hS hb g
  refine wpOp_step (o := ⟨some 21, .call ⟨.value (.func 73), #[.tmp 20], #[203]⟩, 75, "ref.go:40", #[⟨1, .data⟩], none⟩) rfl (fun Kq hKq => ?_)
  have HK := Lib.hid hKq
  clear hKq
  unfold F7
  go_simp
  refine HC.out.mono ?_
  rintro e w1 ⟨R, s, rfl, hR, hr, hbw⟩
  refine HK.out _ _ (HF.out w1 w.heap.size R s hbw hr (fun k e => ?_))
  rcases e with e | e
  · omega
  · exact (hr.own.lt k e).1
theorem step7 {Q : Exit → Act → World → Prop} {S : World → Prop} {w : World} {b0 b1 b2 : Bool} {x20 x21 x26 x28 x30 x31 x33 : Value} {q0 qc qk qt qp ql qn : Part}
    (hb : Below X w0 w) (g : G7 w X (.cells #[.int .i64 spin, .int .u64 (most : Int), .slice A n cc] 115) most D 2 b0 b1 b2 x20 x21 x26 x28 x30 x31 x33 q0 qc qk qt qp ql qn)
    (hS : ∀ w' l, Parts w' X (blockP X (.cells #[.int .i64 spin, .int .u64 (most : Int), .slice A n cc] 115) :: l) → S w')
    (hclk : ∀ W, Below X w0 W → Calls Tryz.prog 74 #[.slice A n cc, .int .u64 (most : Int)] W (S3.RMade W 0 most (D.take 65536))) :
    wpOp Tryz.prog R7 Q 7 (fun a' w' => S w' ∧ I7 spin most n cc A X D w0 ((L7 2 b0 b1 b2).setIfInBounds 7 true) a' w') (F7 spin most n cc A X undef x20 x21 x26 x28 x30 x31 x33 undef undef) w := by
  have hq : qk = emptyP := g.hk
  subst hq
  have hcall := hclk w hb
  have HC := Lib.hid hcall
  clear hcall hclk
  have hfin : ∀ w' (b B : Nat) (s : Value), Below w.heap.size w w' → (rclockP b B 0 most s (D.take 65536)).ok w' → (∀ k, (rclockP b B 0 most s (D.take 65536)).fp k → w.heap.size ≤ k) → S w' ∧ I7 spin most n cc A X D w0 ((L7 2 b0 b1 b2).setIfInBounds 7 true) (F7 spin most n cc A X undef x20 x21 (.pointer (some ⟨B, 0, none⟩)) x28 x30 x31 x33 undef undef) w' := fun w' b B s hbw hok hfp => by
    have hP := g.ps.fill (i := 3) rfl (rclockP b B 0 most s (D.take 65536)) hbw hok hfp
    exact ⟨hS _ _ hP, 3, b0, b1, b2, _, _, _, _, _, _, _, _, _, _, _, _, _, _, by omega, set7 .., rfl, hb.trans (hbw.mono g.ps.size), ⟨hP, g.h0, g.hc, ⟨_, _, _, rfl, rfl⟩, g.ht, g.hp, g.hl, g.hn⟩⟩
  have HF := Lib.hid hfin
  clear hfin hS hb g
  refine wpOp_step (o := ⟨some 26, .call ⟨.value (.func 74), #[.tmp 23, .tmp 25], #[30, 29]⟩, 76, "ref.go:40", #[⟨4, .data⟩, ⟨6, .data⟩, ⟨2, .chain⟩], none⟩) rfl (fun Kq hKq => ?_)
  have HK := Lib.hid hKq
  clear hKq
  unfold F7
  go_simp
  refine HC.out.mono ?_
  rintro e w1 ⟨R, s, rfl, hR, hr, hbw⟩
  refine HK.out _ _ (HF.out w1 w.heap.size R s hbw hr (fun k e => ?_))
  rcases e with e | e
  · omega
  · exact (hr.own.lt k e).1
theorem step12 {Q : Exit → Act → World → Prop} {S : World → Prop} {w : World} {b0 b1 b2 : Bool} {x20 x21 x26 x28 x30 x31 x33 : Value} {q0 qc qk qt qp ql qn : Part}
    (hb : Below X w0 w) (g : G7 w X (.cells #[.int .i64 spin, .int .u64 (most : Int), .slice A n cc] 115) most D 3 b0 b1 b2 x20 x21 x26 x28 x30 x31 x33 q0 qc qk qt qp ql qn)
    (hS : ∀ w' l, Parts w' X (blockP X (.cells #[.int .i64 spin, .int .u64 (most : Int), .slice A n cc] 115) :: l) → S w') :
    wpOp Tryz.prog R7 Q 12 (fun a' w' => S w' ∧ I7 spin most n cc A X D w0 ((L7 3 b0 b1 b2).setIfInBounds 12 true) a' w') (F7 spin most n cc A X undef x20 x21 x26 x28 x30 x31 x33 undef undef) w := by
  have hq : qt = emptyP := g.ht
  subst hq
  have hcall := S10.rnew_any 0 w
  have HC := Lib.hid hcall
  clear hcall
  have hfin : ∀ w' (x : Value) (b : Nat) (own : Nat → Option S10.Role), Below w.heap.size w w' → (rtablesP b own x (S10.M0 0)).ok w' → (∀ k, (rtablesP b own x (S10.M0 0)).fp k → w.heap.size ≤ k) → S w' ∧ I7 spin most n cc A X D w0 ((L7 3 b0 b1 b2).setIfInBounds 12 true) (F7 spin most n cc A X undef x20 x21 x26 x28 x30 (x) x33 undef undef) w' := fun w' x b own hbw hok hfp => by
    have hP := g.ps.fill (i := 4) rfl (rtablesP b own x (S10.M0 0)) hbw hok hfp
    exact ⟨hS _ _ hP, 4, b0, b1, b2, _, _, _, _, _, _, _, _, _, _, _, _, _, _, by omega, set12 .., rfl, hb.trans (hbw.mono g.ps.size), ⟨hP, g.h0, g.hc, g.hk, ⟨_, _, rfl⟩, g.hp, g.hl, g.hn⟩⟩
  have HF := Lib.hid hfin
  clear hfin hS hb g
  refine wpOp_step (o := ⟨some 31, .call ⟨.value (.func 75), #[.const (.int .u64 0)], #[29]⟩, 79, "ref.go:40", #[⟨7, .chain⟩], none⟩) rfl (fun Kq hKq => ?_)
  have HK := Lib.hid hKq
  clear hKq
  unfold F7
  go_simp
  refine HC.out.mono ?_
  rintro e w1 ⟨s, own, rfl, hr, hbw⟩
  refine HK.out _ _ (HF.out w1 s w.heap.size own hbw hr (fun k e => (hr.fp e).1))
end
end Go.Proofs.YtpmafdggbeppcaaGreatDoor.S12
namespace Go.Proofs.YtpmafdggbeppcaaGreatDoor.S12
set_option maxRecDepth 100000
set_option maxHeartbeats 16000000
open Go.Proofs.YtpmafdggbeppcaaGreatDoor Go.Proofs.YtpmafdggbeppcaaGreatDoor.S11
open Go.RowKit
noncomputable def wcells (a b c d e f : Value) (spin : Int) : Array Value := ((((((Tryz.zeroCells82.setIfInBounds 0 a).setIfInBounds 1 b).setIfInBounds 2 c).setIfInBounds 3 d).setIfInBounds 4 e).setIfInBounds 5 f).setIfInBounds 6 (.int .i64 spin)
section
variable {spin : Int} {most n cc : Nat} {A : Option Addr} {X : Nat} {D : List Nat} {w0 : World}
theorem fin7 {Q : Exit → Act → World → Prop} {S : World → Prop} {w : World} {Bc Bk Bp Bl Bn Bt : Nat} {x20 : Value}
    (hQp : ∀ c a (t : Nat) v w, Q (.panic c) (Act.put a (some t) v) w → Q (.panic c) a w) (hSw : S w) (hS1 : S (w.alloc (.cells (wcells (.pointer (some ⟨Bc, 0, none⟩)) (.pointer (some ⟨Bk, 0, none⟩)) (.pointer (some ⟨Bp, 0, none⟩)) (.pointer (some ⟨Bl, 0, none⟩)) (.pointer (some ⟨Bt, 0, none⟩)) (.pointer (some ⟨Bn, 0, none⟩)) spin) 82)))
    (hout : Q .normal (F7 spin most n cc A X (.pointer (some ⟨w.heap.size, 0, none⟩)) x20 (.pointer (some ⟨Bc, 0, none⟩)) (.pointer (some ⟨Bk, 0, none⟩)) (.pointer (some ⟨Bp, 0, none⟩)) (.pointer (some ⟨Bl, 0, none⟩)) (.pointer (some ⟨Bt, 0, none⟩)) (.pointer (some ⟨Bn, 0, none⟩)) (.agg (wcells (.pointer (some ⟨Bc, 0, none⟩)) (.pointer (some ⟨Bk, 0, none⟩)) (.pointer (some ⟨Bp, 0, none⟩)) (.pointer (some ⟨Bl, 0, none⟩)) (.pointer (some ⟨Bt, 0, none⟩)) (.pointer (some ⟨Bn, 0, none⟩)) spin)) (.pointer (some ⟨w.heap.size, 0, none⟩))) (w.alloc (.cells (wcells (.pointer (some ⟨Bc, 0, none⟩)) (.pointer (some ⟨Bk, 0, none⟩)) (.pointer (some ⟨Bp, 0, none⟩)) (.pointer (some ⟨Bl, 0, none⟩)) (.pointer (some ⟨Bt, 0, none⟩)) (.pointer (some ⟨Bn, 0, none⟩)) spin) 82)))
    (m : Nat) : wpAnyH Tryz.prog .any R7 Q S (m + 3) (L7 4 true true true) (F7 spin most n cc A X undef x20 (.pointer (some ⟨Bc, 0, none⟩)) (.pointer (some ⟨Bk, 0, none⟩)) (.pointer (some ⟨Bp, 0, none⟩)) (.pointer (some ⟨Bl, 0, none⟩)) (.pointer (some ⟨Bt, 0, none⟩)) (.pointer (some ⟨Bn, 0, none⟩)) undef undef) w := by
  unfold wcells at hS1 hout
  unfold F7 at hout
  have HS1 := Lib.hid hS1
  have HOUT := Lib.hid hout
  clear hS1 hout
  have hHeld := hSw
  unfold F7 R7 L7
  refine wpAnyH_take (i := 17) (oi := ({ dst := some 36, op := Op.build 82 #[(0, Operand.tmp 21), (1, Operand.tmp 26), (2, Operand.tmp 28), (3, Operand.tmp 30), (4, Operand.tmp 31), (5, Operand.tmp 33), (6, Operand.tmp 35)], type := 82, pos := "ref.go:40", after := #[{ on := 2, ground := Ground.data }, { on := 7, ground := Ground.data }, { on := 9, ground := Ground.data }, { on := 11, ground := Ground.data }, { on := 12, ground := Ground.data }, { on := 14, ground := Ground.data }, { on := 16, ground := Ground.data }], guard := none } : Oper)) (v := ?vz17) rfl (by kernel_rfl) (by kernel_rfl) (by kernel_rfl) (fun c a w h => hQp c a _ _ w h) (Or.inl ⟨by rfl, fun w hSw => ?hyz17⟩) (by assumption) ?rz17
  case hyz17 => (try dsimp only at hSw); go_simp; (try with_reducible rfl)
  (try simp only [Act.put, tC, tD, tE])
  refine wpAnyH_ready (rs := [18]) (by kernel_rfl) (by simp) ?_
  refine AllReadyH.cons (o := ⟨some 37, .box 82 (.tmp 36), 25, "ref.go:40", #[⟨17, .data⟩], none⟩) rfl (fun Kq hKq => ?_) AllReadyH.nil
  go_simp
  refine hKq.out _ _ ?_ (fun hHeld => ?_)
  · exact HS1.out
  clear hKq Kq
  (try simp only [Act.put, tC, tD, tE])
  refine wpAnyH_take (i := 19) (oi := ({ dst := some 4, op := Op.assign (Operand.tmp 37), type := 25, pos := "ref.go:40", after := #[{ on := 18, ground := Ground.data }, { on := 12, ground := Ground.chain }, { on := 0, ground := Ground.phase }, { on := 1, ground := Ground.phase }, { on := 2, ground := Ground.phase }, { on := 3, ground := Ground.phase }, { on := 4, ground := Ground.phase }, { on := 5, ground := Ground.phase }, { on := 6, ground := Ground.phase }, { on := 7, ground := Ground.phase }, { on := 8, ground := Ground.phase }, { on := 9, ground := Ground.phase }, { on := 10, ground := Ground.phase }, { on := 11, ground := Ground.phase }, { on := 12, ground := Ground.phase }, { on := 13, ground := Ground.phase }, { on := 14, ground := Ground.phase }, { on := 15, ground := Ground.phase }, { on := 16, ground := Ground.phase }, { on := 17, ground := Ground.phase }, { on := 18, ground := Ground.phase }], guard := none } : Oper)) (v := ?vz19) rfl (by kernel_rfl) (by kernel_rfl) (by kernel_rfl) (fun c a w h => hQp c a _ _ w h) (Or.inl ⟨by rfl, fun w hSw => ?hyz19⟩) (by assumption) ?rz19
  case hyz19 => (try dsimp only at hSw); go_simp; (try with_reducible rfl)
  (try simp only [Act.put, tC, tD, tE])
  refine wpAnyH_done (by kernel_rfl) ?_ _
  exact HOUT.out
theorem all7 {Q : Exit → Act → World → Prop} {S : World → Prop} {w : World} {q0 qc qk qt qp ql qn : Part}
    (hQp : ∀ c a (t : Nat) v w, Q (.panic c) (Act.put a (some t) v) w → Q (.panic c) a w) (hb : Below X w0 w) (g : G7 w X (.cells #[.int .i64 spin, .int .u64 (most : Int), .slice A n cc] 115) most D 0 false false false undef undef undef undef undef undef undef q0 qc qk qt qp ql qn)
    (hS : ∀ w' l, Parts w' X (blockP X (.cells #[.int .i64 spin, .int .u64 (most : Int), .slice A n cc] 115) :: l) → S w')
    (hclk : ∀ W, Below X w0 W → Calls Tryz.prog 74 #[.slice A n cc, .int .u64 (most : Int)] W (S3.RMade W 0 most (D.take 65536)))
    (hout : ∀ (w : World) (Bc Bk Bp Bl Bt Bn bc bk bt : Nat) (sc sk : Value) (own : Nat → Option S10.Role) (q0 : Part) (x20 : Value), Below X w0 w →
      Parts w X [blockP X (.cells #[.int .i64 spin, .int .u64 (most : Int), .slice A n cc] 115), q0, rcellsP bc Bc sc L02 0 0 0 0 0, rclockP bk Bk 0 most sk (D.take 65536), rtablesP bt own (.pointer (some ⟨Bt, 0, none⟩)) (S10.M0 0), blockP Bp (.cells Tryz.zeroCells165 165), blockP Bl (.cells Tryz.zeroCells208 208), blockP Bn (.cells #[.slice none 0 0] 158)] →
      Q .normal (F7 spin most n cc A X (.pointer (some ⟨w.heap.size, 0, none⟩)) x20 (.pointer (some ⟨Bc, 0, none⟩)) (.pointer (some ⟨Bk, 0, none⟩)) (.pointer (some ⟨Bp, 0, none⟩)) (.pointer (some ⟨Bl, 0, none⟩)) (.pointer (some ⟨Bt, 0, none⟩)) (.pointer (some ⟨Bn, 0, none⟩)) (.agg (wcells (.pointer (some ⟨Bc, 0, none⟩)) (.pointer (some ⟨Bk, 0, none⟩)) (.pointer (some ⟨Bp, 0, none⟩)) (.pointer (some ⟨Bl, 0, none⟩)) (.pointer (some ⟨Bt, 0, none⟩)) (.pointer (some ⟨Bn, 0, none⟩)) spin)) (.pointer (some ⟨w.heap.size, 0, none⟩))) (w.alloc (.cells (wcells (.pointer (some ⟨Bc, 0, none⟩)) (.pointer (some ⟨Bk, 0, none⟩)) (.pointer (some ⟨Bp, 0, none⟩)) (.pointer (some ⟨Bl, 0, none⟩)) (.pointer (some ⟨Bt, 0, none⟩)) (.pointer (some ⟨Bn, 0, none⟩)) spin) 82)))
    (fuel : Nat) (hf : openN (L7 0 false false false) ≤ fuel) : wpAnyH Tryz.prog .any R7 Q S fuel (L7 0 false false false) (F7 spin most n cc A X undef undef undef undef undef undef undef undef undef undef) w := by
  refine wpAnyH_inv2 (I7 spin most n cc A X D w0) (fun fuel L a w hI hf => ?_) fuel _ _ w hf ⟨0, false, false, false, _, _, _, _, _, _, _, _, _, _, _, _, _, _, by omega, rfl, rfl, hb, g⟩
  obtain ⟨c, b0, b1, b2, x20, x21, x26, x28, x30, x31, x33, q0, qc, qk, qt, qp, ql, qn, hc4, rfl, rfl, hb, g⟩ := hI
  by_cases hfin : c = 4 ∧ b0 = true ∧ b1 = true ∧ b2 = true
  · obtain ⟨rfl, rfl, rfl, rfl⟩ := hfin
    left
    obtain ⟨bc, Bc, sc, rfl, rfl⟩ : ∃ b B s, x21 = .pointer (some ⟨B, 0, none⟩) ∧ qc = rcellsP b B s L02 0 0 0 0 0 := g.hc
    obtain ⟨bk, Bk, sk, rfl, rfl⟩ : ∃ b B s, x26 = .pointer (some ⟨B, 0, none⟩) ∧ qk = rclockP b B 0 most s (D.take 65536) := g.hk
    obtain ⟨bt, own, rfl⟩ : ∃ b own, qt = rtablesP b own x31 (S10.M0 0) := g.ht
    obtain ⟨Bp, rfl, rfl⟩ : ∃ B, x28 = .pointer (some ⟨B, 0, none⟩) ∧ qp = blockP B (.cells Tryz.zeroCells165 165) := g.hp
    obtain ⟨Bl, rfl, rfl⟩ : ∃ B, x30 = .pointer (some ⟨B, 0, none⟩) ∧ ql = blockP B (.cells Tryz.zeroCells208 208) := g.hl
    obtain ⟨Bn, rfl, rfl⟩ : ∃ B, x33 = .pointer (some ⟨B, 0, none⟩) ∧ qn = blockP B (.cells #[.slice none 0 0] 158) := g.hn
    obtain ⟨Bt, rfl⟩ : ∃ B, x31 = .pointer (some ⟨B, 0, none⟩) := by
      have : S10.Rt w bt own x31 (S10.M0 0) := g.ps.ok 4 _ rfl
      obtain ⟨rb, Q', T', V', h⟩ := this
      exact ⟨rb, h.hs⟩
    have h3 : openN (L7 4 true true true) = 3 := rfl
    obtain ⟨m, rfl⟩ : ∃ m, fuel = m + 3 := ⟨fuel - 3, by omega⟩
    exact fin7 hQp (hS _ _ g.ps) (hS _ _ (g.ps.new (below1 _ _))) (hout w Bc Bk Bp Bl Bt Bn bc bk bt sc sk own q0 x20 hb g.ps) m
  · right
    rw [ready7 c b0 b1 b2 hc4]
    refine ⟨fun e => ?_, fun i hi => ?_⟩
    · have h : c = 0 ∨ c = 1 ∨ c = 2 ∨ c = 3 ∨ c = 4 := by omega
      rcases h with rfl | rfl | rfl | rfl | rfl <;> simp at e
      obtain ⟨e0, e1, e2⟩ := e
      cases b0 <;> cases b1 <;> cases b2 <;> simp at e0 e1 e2 hfin
    · simp only [List.mem_append] at hi
      rcases hi with ((((((hi | hi) | hi) | hi) | hi) | hi) | hi) | hi
      · split at hi
        · rename_i hc; subst hc; simp at hi; subst hi; exact step1 hb g hS
        · cases hi
      · split at hi
        · rename_i hc; subst hc; simp at hi; subst hi; exact step2 hb g hS
        · cases hi
      · split at hi
        · rename_i hc; subst hc; simp at hi; subst hi; exact step7 hb g hS hclk
        · cases hi
      · cases b0
        · simp at hi; subst hi; exact step9 hc4 hb g hS
        · cases hi
      · cases b1
        · simp at hi; subst hi; exact step11 hc4 hb g hS
        · cases hi
      · split at hi
        · rename_i hc; subst hc; simp at hi; subst hi; exact step12 hb g hS
        · cases hi
      · cases b2
        · simp at hi; subst hi; exact step14 hc4 hb g hS
        · cases hi
      · rw [if_neg hfin] at hi; cases hi
end
end Go.Proofs.YtpmafdggbeppcaaGreatDoor.S12
namespace Go.Proofs.YtpmafdggbeppcaaGreatDoor.S12
set_option maxRecDepth 100000
set_option maxHeartbeats 16000000
open Go.Proofs.YtpmafdggbeppcaaGreatDoor Go.Proofs.YtpmafdggbeppcaaGreatDoor.S11
open Go.RowKit
def RWorld (w w' : World) (spin : Int) (most : Nat) (D : List Nat) (Bw : Nat) : Prop :=
  ∃ (q : List Part) (Bc Bk Bp Bl Bt Bn bc bk bt : Nat) (sc sk : Value) (own : Nat → Option S10.Role),
    Parts w' w.heap.size (q ++ [rcellsP bc Bc sc L02 0 0 0 0 0, rclockP bk Bk 0 most sk (D.take 65536), rtablesP bt own (.pointer (some ⟨Bt, 0, none⟩)) (S10.M0 0), blockP Bp (.cells Tryz.zeroCells165 165), blockP Bl (.cells Tryz.zeroCells208 208), blockP Bn (.cells #[.slice none 0 0] 158), blockP Bw (.cells (wcells (.pointer (some ⟨Bc, 0, none⟩)) (.pointer (some ⟨Bk, 0, none⟩)) (.pointer (some ⟨Bp, 0, none⟩)) (.pointer (some ⟨Bl, 0, none⟩)) (.pointer (some ⟨Bt, 0, none⟩)) (.pointer (some ⟨Bn, 0, none⟩)) spin) 82)])
theorem rworld_any {w : World} (spin : Int) (most n c : Nat) (A : Option Addr) {D : List Nat} (hs : 0 ≤ spin ∧ spin ≤ 16) (hn : n ≤ 65536)
    (hclk : ∀ W, Below w.heap.size w W → Calls Tryz.prog 74 #[.slice A n c, .int .u64 (most : Int)] W (S3.RMade W 0 most (D.take 65536))) :
    Calls Tryz.prog 34 #[.agg #[.int .i64 spin, .int .u64 (most : Int), .slice A n c]] w fun e w' => ∃ Bw, e = .returned (.tuple #[.pointer (some ⟨Bw, 0, none⟩), .int .i64 0]) ∧ RWorld w w' spin most D Bw ∧ Below w.heap.size w w' := by
  have hnew := heap_alloc_new w (.cells #[.int .i64 spin, .int .u64 (most : Int), .slice A n c] 115)
  have c0 := cell_row hnew 0; have c1 := cell_row hnew 1; have c2 := cell_row hnew 2
  simp only [List.getElem?_toArray, List.getElem?_cons_zero, List.getElem?_cons_succ] at c0 c1 c2
  have h1 : ¬ spin < 0 := by omega
  have h2 : ¬ 16 < spin := by omega
  have h3 : ¬ (65536 : Int) < (n : Int) := by omega
  have hP0 := (parts_nil w).push (blockP w.heap.size (.cells #[.int .i64 spin, .int .u64 (most : Int), .slice A n c] 115)) (below1 w (.cells #[.int .i64 spin, .int .u64 (most : Int), .slice A n c] 115)) hnew (fun k e => Nat.le_of_eq e.symm)
  have hP : Parts (w.alloc (.cells #[.int .i64 spin, .int .u64 (most : Int), .slice A n c] 115)).drew w.heap.size [blockP w.heap.size (.cells #[.int .i64 spin, .int .u64 (most : Int), .slice A n c] 115), emptyP, emptyP, emptyP, emptyP, emptyP, emptyP, emptyP] := by
    refine ⟨hP0.drew.size, fun i p hp => ?_, fun i j p q hp hq hij k hk hk2 => ?_, fun i p hp k hk => ?_⟩
    · match i, hp with
      | 0, hp => exact hP0.drew.ok 0 p hp
      | 1, hp => injection hp with hp; subst hp; trivial
      | 2, hp => injection hp with hp; subst hp; trivial
      | 3, hp => injection hp with hp; subst hp; trivial
      | 4, hp => injection hp with hp; subst hp; trivial
      | 5, hp => injection hp with hp; subst hp; trivial
      | 6, hp => injection hp with hp; subst hp; trivial
      | 7, hp => injection hp with hp; subst hp; trivial
      | i + 8, hp => simp at hp
    · have hz : ∀ i p, [blockP w.heap.size (.cells #[.int .i64 spin, .int .u64 (most : Int), .slice A n c] 115), emptyP, emptyP, emptyP, emptyP, emptyP, emptyP, emptyP][i]? = some p → p.fp k → i = 0 := fun i p hp hk => by
        match i, hp with
        | 0, _ => rfl
        | 1, hp => injection hp with hp; subst hp; exact hk.elim
        | 2, hp => injection hp with hp; subst hp; exact hk.elim
        | 3, hp => injection hp with hp; subst hp; exact hk.elim
        | 4, hp => injection hp with hp; subst hp; exact hk.elim
        | 5, hp => injection hp with hp; subst hp; exact hk.elim
        | 6, hp => injection hp with hp; subst hp; exact hk.elim
        | 7, hp => injection hp with hp; subst hp; exact hk.elim
        | i + 8, hp => simp at hp
      exact hij ((hz i p hp hk).trans (hz j q hq hk2).symm)
    · match i, hp with
      | 0, hp => exact hP0.drew.low 0 p hp k hk
      | 1, hp => injection hp with hp; subst hp; exact hk.elim
      | 2, hp => injection hp with hp; subst hp; exact hk.elim
      | 3, hp => injection hp with hp; subst hp; exact hk.elim
      | 4, hp => injection hp with hp; subst hp; exact hk.elim
      | 5, hp => injection hp with hp; subst hp; exact hk.elim
      | 6, hp => injection hp with hp; subst hp; exact hk.elim
      | 7, hp => injection hp with hp; subst hp; exact hk.elim
      | i + 8, hp => simp at hp
  have HP := Lib.hid hP; have HCLK := Lib.hid hclk
  have HB0 : Hid (Below w.heap.size w (w.alloc (.cells #[.int .i64 spin, .int .u64 (most : Int), .slice A n c] 115))) := Lib.hid (below1 _ _)
  clear hnew hP0 hP hclk
  go_enter Tryz.func34, Tryz.ntmps34
  go_upto_region 3 with (fail)
  generalize hX : w.heap.size = X at *
  generalize w.alloc (.cells #[.int .i64 spin, .int .u64 (most : Int), .slice A n c] 115) = wb at *
  have HX := Lib.hid hX
  clear hX
  refine wp_region_held_drew (S := fun w' => w'.cell? ⟨X, 0, none⟩ = some (.int .i64 spin) ∧ w'.cell? ⟨X, 1, none⟩ = some (.int .u64 (most : Int)) ∧ w'.cell? ⟨X, 2, none⟩ = some (.slice A n c)) (by kernel_rfl) ?_ (fun hHeld => ?_)
  · exact ⟨c0, c1, c2⟩
  refine tA 0 ⟨some 19, .build 202 #[(0, .const (.int .u32 0)), (1, .const (.int .u64 2))], 202, "ref.go:40", #[], none⟩ ?va0 ?ra0
  (try simp only [Act.put, tC, tD, tE])
  refine tA 3 ⟨some 22, .fieldAddr 115 (.tmp 1) 2, 0, "ref.go:40", #[], none⟩ ?va3 ?ra3
  (try simp only [Act.put, tC, tD, tE])
  refine tA 4 ⟨some 23, .load 30 (.tmp 22), 30, "ref.go:40", #[⟨3, .data⟩], none⟩ ?va4 ?ra4
  (try simp only [Act.put, tC, tD, tE])
  refine tA 5 ⟨some 24, .fieldAddr 115 (.tmp 1) 1, 0, "ref.go:40", #[], none⟩ ?va5 ?ra5
  (try simp only [Act.put, tC, tD, tE])
  refine tA 6 ⟨some 25, .load 29 (.tmp 24), 29, "ref.go:40", #[⟨5, .data⟩], none⟩ ?va6 ?ra6
  (try simp only [Act.put, tC, tD, tE])
  refine tA 8 ⟨some 27, .build 165 #[], 165, "ref.go:40", #[], none⟩ ?va8 ?ra8
  (try simp only [Act.put, tC, tD, tE])
  refine tA 10 ⟨some 29, .build 208 #[], 208, "ref.go:40", #[], none⟩ ?va10 ?ra10
  (try simp only [Act.put, tC, tD, tE])
  refine tA 13 ⟨some 32, .build 158 #[], 158, "ref.go:40", #[], none⟩ ?va13 ?ra13
  (try simp only [Act.put, tC, tD, tE])
  refine tA 15 ⟨some 34, .fieldAddr 115 (.tmp 1) 0, 0, "ref.go:40", #[], none⟩ ?va15 ?ra15
  (try simp only [Act.put, tC, tD, tE])
  refine tA 16 ⟨some 35, .load 3 (.tmp 34), 3, "ref.go:40", #[⟨15, .data⟩], none⟩ ?va16 ?ra16
  (try simp only [Act.put, tC, tD, tE])
  clear hHeld c0 c1 c2 h1 h2 h3
  refine all7 (w0 := w) (D := D) (fun c a d v w h => h) HB0.out.drew ⟨HP.out, rfl, rfl, rfl, rfl, rfl, rfl, rfl⟩ (fun w' l hl => ?_) HCLK.out (fun wv Bc Bk Bp Bl Bt Bn bc bk bt sc sk own q0 x20 hb hp => ?_) _ (by decide)
  · have h0 : w'.heap[X]? = some (.cells #[.int .i64 spin, .int .u64 (most : Int), .slice A n c] 115) := hl.ok 0 _ rfl
    exact ⟨cell_row h0 0, cell_row h0 1, cell_row h0 2⟩
  · have hp2 := hp.push (blockP wv.heap.size (.cells (wcells (.pointer (some ⟨Bc, 0, none⟩)) (.pointer (some ⟨Bk, 0, none⟩)) (.pointer (some ⟨Bp, 0, none⟩)) (.pointer (some ⟨Bl, 0, none⟩)) (.pointer (some ⟨Bt, 0, none⟩)) (.pointer (some ⟨Bn, 0, none⟩)) spin) 82)) (below1 wv _) (heap_alloc_new _ _) (fun k e => Nat.le_of_eq e.symm)
    have hb2 : Below X w (wv.alloc (.cells (wcells (.pointer (some ⟨Bc, 0, none⟩)) (.pointer (some ⟨Bk, 0, none⟩)) (.pointer (some ⟨Bp, 0, none⟩)) (.pointer (some ⟨Bl, 0, none⟩)) (.pointer (some ⟨Bt, 0, none⟩)) (.pointer (some ⟨Bn, 0, none⟩)) spin) 82)) := hb.alloc hp.size _
    have HP2 := Lib.hid hp2; have HB2 := Lib.hid hb2
    clear hp hb hp2 hb2 HP HCLK HB0
    unfold F7
    generalize hWC : wcells (.pointer (some ⟨Bc, 0, none⟩)) (.pointer (some ⟨Bk, 0, none⟩)) (.pointer (some ⟨Bp, 0, none⟩)) (.pointer (some ⟨Bl, 0, none⟩)) (.pointer (some ⟨Bt, 0, none⟩)) (.pointer (some ⟨Bn, 0, none⟩)) spin = WC at *
    have HWC := Lib.hid hWC
    clear hWC
    go_wp2_with fail
    go_ret2
    refine ⟨wv.heap.size, rfl, ⟨[blockP X (.cells #[.int .i64 spin, .int .u64 (most : Int), .slice A n c] 115), q0], Bc, Bk, Bp, Bl, Bt, Bn, bc, bk, bt, sc, sk, own, ?_⟩, by rw [HX.out]; exact HB2.out⟩
    rw [HX.out, HWC.out]
    exact HP2.out
end Go.Proofs.YtpmafdggbeppcaaGreatDoor.S12
namespace Go.Proofs.YtpmafdggbeppcaaGreatDoor.S12
open Go.Proofs.YtpmafdggbeppcaaGreatDoor Go.Proofs.YtpmafdggbeppcaaGreatDoor.S11
open Go.RowKit
end Go.Proofs.YtpmafdggbeppcaaGreatDoor.S12
namespace Go.Proofs.YtpmafdggbeppcaaGreatDoor.S3
set_option maxRecDepth 100000
set_option maxHeartbeats 16000000
open Go.Proofs.YtpmafdggbeppcaaGreatDoor
open Go.RowKit
def OthC (w w' : World) (spin most : Int) (D : List Nat) (e : Ending) : Prop := ∃ A c, e = .returned (.agg #[.int .i64 spin, .int .u64 most, .slice A D.length c]) ∧ D.length ≤ c ∧ c ≤ 9223372036854775807 ∧ Row w' w.heap.size (.slice A D.length c) D ∧ Below w.heap.size w w'
theorem otherC_any {w : World} (spin most : Int) {b2 : Nat} {A : Option Addr} {D : List Nat} (c : Nat) (hr : Rd w b2 A D) (hb2 : b2 ≤ w.heap.size) (hl : D.length ≤ 3000000) :
    Calls Tryz.prog 35 #[.agg #[.int .i64 spin, .int .u64 most, .slice A D.length c]] w fun e w' => OthC w w' spin most D e := by
  have hbw : Below w.heap.size w ((w.alloc (.cells #[.int .i64 spin, .int .u64 most, .slice A D.length c] 32)).alloc (.cells #[.int .i64 0, .int .u64 0, .slice none 0 0] 115)) := ((Below.refl _ _).alloc (Nat.le_refl _) _).alloc (by simp) _
  have h0 := heap_alloc_new w (.cells #[.int .i64 spin, .int .u64 most, .slice A D.length c] 32)
  have h1 := heap_alloc_new (w.alloc (.cells #[.int .i64 spin, .int .u64 most, .slice A D.length c] 32)) (.cells #[.int .i64 0, .int .u64 0, .slice none 0 0] 115)
  have h0' : ((w.alloc (.cells #[.int .i64 spin, .int .u64 most, .slice A D.length c] 32)).alloc (.cells #[.int .i64 0, .int .u64 0, .slice none 0 0] 115)).heap[w.heap.size]? = _ := (((Below.refl _ (w.alloc (.cells #[.int .i64 spin, .int .u64 most, .slice A D.length c] 32))).alloc (Nat.le_refl _) (.cells #[.int .i64 0, .int .u64 0, .slice none 0 0] 115)).block w.heap.size (by simp)).trans h0
  obtain ⟨B0, hB0⟩ : ∃ B0, B0 = w.heap.size := ⟨_, rfl⟩
  have hs : (w.alloc (.cells #[.int .i64 spin, .int .u64 most, .slice A D.length c] 32)).heap.size = w.heap.size + 1 := by simp
  rw [hs] at h1
  have hlt : w.heap.size + 1 < ((w.alloc (.cells #[.int .i64 spin, .int .u64 most, .slice A D.length c] 32)).alloc (.cells #[.int .i64 0, .int .u64 0, .slice none 0 0] 115)).heap.size := (Array.getElem?_eq_some_iff.1 h1).1
  have HR := Lib.hid (hr.below hbw hb2); have HBW := Lib.hid hbw; have HL := Lib.hid hl; have HB2 := Lib.hid hb2
  have HLE : Hid (w.heap.size ≤ w.heap.size + 1) := Lib.hid (Nat.le_succ _)
  rw [← hB0] at h0' h1 hlt
  have H0 := Lib.hid h0'; have H1 := Lib.hid h1; have HLT := Lib.hid hlt; have HB0 := Lib.hid hB0
  have HFN : Hid (∀ (w4 : World) (A3 : Option Addr) (cap3 k : Nat), w.heap.size ≤ k → Row w4 k (.slice A3 D.length cap3) D → Below w.heap.size w w4 → OthC w w4 spin most D (.returned (.agg #[.int .i64 spin, .int .u64 most, .slice A3 D.length cap3]))) := Lib.hid (fun w4 A3 cap3 k hk hr4 hb4 => by
    obtain ⟨A', c', e1, e2, e3, e4, e5⟩ := hr4
    injection e1 with e1 _ e1'
    subst e1 e1'
    exact ⟨A3, cap3, rfl, e2, by unfold maxLen at e3; omega, ⟨A3, cap3, rfl, e2, e3, e4, fun ad ha => by
      obtain ⟨g, o, h1, h2, h3⟩ := e5 ad ha
      exact ⟨g, o, h1, by omega, h3⟩⟩, hb4⟩)
  have HSZ : Hid (w.heap.size ≤ ((w.alloc (.cells #[.int .i64 spin, .int .u64 most, .slice A D.length c] 32)).alloc (.cells #[.int .i64 0, .int .u64 0, .slice none 0 0] 115)).heap.size) := Lib.hid hbw.size
  clear hbw h0 h1 h0' hs hlt hr hb2 hl hB0
  go_enter Tryz.func35, Tryz.ntmps35
  go_upto_region 1 with (fail)
  have hw1 : ∃ B1, B1 = w.heap.size + 1 := ⟨_, rfl⟩
  obtain ⟨B1, hB1⟩ := hw1
  rw [← HB0.out]
  have H1' : Hid (((w.alloc (.cells #[.int .i64 spin, .int .u64 most, .slice A D.length c] 32)).alloc (.cells #[.int .i64 0, .int .u64 0, .slice none 0 0] 115)).heap[B1]? = some (.cells #[.int .i64 0, .int .u64 0, .slice none 0 0] 115)) := Lib.hid (by rw [hB1, ← HB0.out]; exact H1.out)
  have HLE2 : Hid (w.heap.size ≤ B1) := Lib.hid (by omega)
  have HLT2 : Hid (B1 < ((w.alloc (.cells #[.int .i64 spin, .int .u64 most, .slice A D.length c] 32)).alloc (.cells #[.int .i64 0, .int .u64 0, .slice none 0 0] 115)).heap.size) := Lib.hid (by rw [hB1, ← HB0.out]; exact HLT.out)
  rw [show B0 + 1 = B1 by rw [hB1, ← HB0.out]]
  have HNE : Hid (¬ B0 = B1) := Lib.hid (by rw [hB1, ← HB0.out]; omega)
  clear hB1 H1 HLT HLE HB0
  generalize (w.alloc (.cells #[.int .i64 spin, .int .u64 most, .slice A D.length c] 32)).alloc (.cells #[.int .i64 0, .int .u64 0, .slice none 0 0] 115) = w1 at *
  have HC0 : Hid (∀ W, Below w1.heap.size w1 W → W.cell? ⟨B0, 0, none⟩ = some (.int .i64 spin) ∧ W.cell? ⟨B0, 1, none⟩ = some (.int .u64 most) ∧ W.cell? ⟨B0, 2, none⟩ = some (.slice A D.length c)) := Lib.hid (fun W q => ⟨(q.cell (p := ⟨B0, 0, none⟩) (Array.getElem?_eq_some_iff.1 H0.out).1).trans (cell_row H0.out 0), (q.cell (p := ⟨B0, 1, none⟩) (Array.getElem?_eq_some_iff.1 H0.out).1).trans (cell_row H0.out 1), (q.cell (p := ⟨B0, 2, none⟩) (Array.getElem?_eq_some_iff.1 H0.out).1).trans (cell_row H0.out 2)⟩)
  have HZ : Hid (∀ W, Below w1.heap.size w1 W → W.cell? ⟨B1, 0, none⟩ = some (.int .i64 0) ∧ W.cell? ⟨B1, 1, none⟩ = some (.int .u64 0) ∧ W.cell? ⟨B1, 2, none⟩ = some (.slice none 0 0) ∧ W.frozen? ⟨B1, 0, none⟩ = false ∧ W.frozen? ⟨B1, 1, none⟩ = false ∧ W.frozen? ⟨B1, 2, none⟩ = false) := Lib.hid (fun W q => by
    have hb : W.heap[B1]? = _ := (q.block B1 HLT2.out).trans H1'.out
    exact ⟨cell_row hb 0, cell_row hb 1, cell_row hb 2, froz_row hb 0, froz_row hb 1, froz_row hb 2⟩)
  refine wp_region_held_drew (S := fun w' => w'.cell? ⟨B0, 0, none⟩ = some (.int .i64 spin) ∧ w'.cell? ⟨B0, 1, none⟩ = some (.int .u64 most) ∧ w'.cell? ⟨B0, 2, none⟩ = some (.slice A D.length c)) (by kernel_rfl) ?_ (fun hHeld => ?_)
  · exact HC0.out _ ((Below.refl _ _).drew)
  refine tA 0 ⟨some 3, .fieldAddr 32 (.tmp 1) 0, 0, "help.go:26", #[], none⟩ ?vax1 ?rax1
  (try simp only [Act.put, tC, tD, tE])
  refine tA 1 ⟨some 4, .load 3 (.tmp 3), 3, "help.go:26", #[⟨0, .data⟩], none⟩ ?vax2 ?rax2
  (try simp only [Act.put, tC, tD, tE])
  refine tA 2 ⟨some 5, .fieldAddr 32 (.tmp 1) 1, 0, "help.go:26", #[], none⟩ ?vax3 ?rax3
  (try simp only [Act.put, tC, tD, tE])
  refine tA 3 ⟨some 6, .load 29 (.tmp 5), 29, "help.go:26", #[⟨2, .data⟩], none⟩ ?vax4 ?rax4
  (try simp only [Act.put, tC, tD, tE])
  refine tA 4 ⟨some 7, .fieldAddr 32 (.tmp 1) 2, 0, "help.go:26", #[], none⟩ ?vax5 ?rax5
  (try simp only [Act.put, tC, tD, tE])
  refine tA 5 ⟨some 8, .load 30 (.tmp 7), 30, "help.go:26", #[⟨4, .data⟩], none⟩ ?vax6 ?rax6
  (try simp only [Act.put, tC, tD, tE])
  refine wpAnyH_ready (rs := [6]) (by kernel_rfl) (by simp) ?_
  refine AllReadyH.cons (o := ⟨some 9, .call ⟨.builtin .append, #[.const (.slice none 0 0), .tmp 8], #[30, 30]⟩, 30, "help.go:26", #[⟨5, .data⟩], none⟩) rfl (fun Kq hKq => ?_) AllReadyH.nil
  refine step_append_row (base := w1.heap.size) (v := .slice none 0 0) (D := []) rfl _ _ rfl (by rfl) (row_nil _ _) (Nat.le_refl _) c (by rfl) (rfl : D.length = D.length) HR.out (by simp; exact HL.out) ?_; intro v3 w3 hr3 ht3 ho3; rw [List.nil_append] at hr3; obtain ⟨A3, cap3, hv3⟩ := hr3.shape; subst hv3
  have hb3 : Below w1.heap.size w1 w3 := (Below.refl _ w1).drew.trans (ht3.below (Nat.le_refl _) (fun k _ e => by cases e))
  have HB3 := Lib.hid hb3; have HR3 := Lib.hid hr3
  clear hb3 hr3 ht3 ho3
  refine hKq.out _ _ ?_ (fun hHeld => ?_)
  · exact HC0.out _ HB3.out
  clear hKq Kq
  (try simp only [Act.put, tC, tD, tE])
  refine tA 7 ⟨some 10, .build 115 #[(0, .tmp 4), (1, .tmp 6), (2, .tmp 9)], 115, "help.go:26", #[⟨1, .data⟩, ⟨3, .data⟩, ⟨6, .data⟩], none⟩ ?vax7 ?rax7
  (try simp only [Act.put, tC, tD, tE])
  refine wpAnyH_ready (rs := [8]) (by kernel_rfl) (by simp) ?_
  refine AllReadyH.cons (o := ⟨none, .store 115 (.tmp 2) (.tmp 10), 0, "help.go:26", #[⟨7, .data⟩, ⟨6, .chain⟩, ⟨0, .phase⟩, ⟨1, .phase⟩, ⟨2, .phase⟩, ⟨3, .phase⟩, ⟨4, .phase⟩, ⟨5, .phase⟩, ⟨6, .phase⟩, ⟨7, .phase⟩], none⟩) rfl (fun Kq hKq => ?_) AllReadyH.nil
  obtain ⟨z0, z1, z2, f0, f1, f2⟩ := HZ.out _ HB3.out
  go_simp
  have HB4 : Hid (Below w.heap.size w (((w3.setCell ⟨B1, 0, none⟩ (.int .i64 spin)).setCell ⟨B1, 1, none⟩ (.int .u64 most)).setCell ⟨B1, 2, none⟩ (.slice A3 D.length cap3))) := Lib.hid ((((HBW.out.trans (HB3.out.mono HBW.out.size)).setCell (p := ⟨B1, 0, none⟩) HLE2.out _).setCell (p := ⟨B1, 1, none⟩) HLE2.out _).setCell (p := ⟨B1, 2, none⟩) HLE2.out _)
  have HR4 : Hid (Row (((w3.setCell ⟨B1, 0, none⟩ (.int .i64 spin)).setCell ⟨B1, 1, none⟩ (.int .u64 most)).setCell ⟨B1, 2, none⟩ (.slice A3 D.length cap3)) w1.heap.size (.slice A3 D.length cap3) D) := Lib.hid (HR3.out.keep ((((Turns.refl (fun k => k = B1) w3).setCell ⟨B1, 0, none⟩ _ rfl).setCell ⟨B1, 1, none⟩ _ rfl).setCell ⟨B1, 2, none⟩ _ rfl) (fun g hg e => by have := (HR3.out.lt g hg).1; have := HLT2.out; omega))
  have hb3 : w3.heap[B1]? = some (.cells #[.int .i64 0, .int .u64 0, .slice none 0 0] 115 (0, 0)) := (HB3.out.block B1 HLT2.out).trans H1'.out
  have h4 : (((w3.setCell ⟨B1, 0, none⟩ (.int .i64 spin)).setCell ⟨B1, 1, none⟩ (.int .u64 most)).setCell ⟨B1, 2, none⟩ (.slice A3 D.length cap3)).heap[B1]? = some (.cells #[.int .i64 spin, .int .u64 most, .slice A3 D.length cap3] 115 (0, 0)) := by simp [World.setCell, Array.getElem?_modify, hb3]
  have h40 : (((w3.setCell ⟨B1, 0, none⟩ (.int .i64 spin)).setCell ⟨B1, 1, none⟩ (.int .u64 most)).setCell ⟨B1, 2, none⟩ (.slice A3 D.length cap3)).heap[B0]? = w3.heap[B0]? := ((((Turns.refl (fun k => k = B1) w3).setCell ⟨B1, 0, none⟩ _ rfl).setCell ⟨B1, 1, none⟩ _ rfl).setCell ⟨B1, 2, none⟩ _ rfl).block B0 (Nat.lt_of_lt_of_le (Array.getElem?_eq_some_iff.1 H0.out).1 HB3.out.size) HNE.out
  have h41 := h40.trans ((HB3.out.block B0 (Array.getElem?_eq_some_iff.1 H0.out).1).trans H0.out)
  have d0 := cell_row h4 0; have d1 := cell_row h4 1; have d2 := cell_row h4 2
  have S0 := cell_row h41 0; have S1 := cell_row h41 1; have S2 := cell_row h41 2
  clear h4 h40 h41 hb3
  simp only [List.getElem?_toArray, List.getElem?_cons_zero, List.getElem?_cons_succ] at d0 d1 d2 S0 S1 S2
  clear z0 z1 z2 f0 f1 f2
  generalize (((w3.setCell ⟨B1, 0, none⟩ (.int .i64 spin)).setCell ⟨B1, 1, none⟩ (.int .u64 most)).setCell ⟨B1, 2, none⟩ (.slice A3 D.length cap3)) = w4 at *
  refine hKq.out _ _ ?_ (fun hHeld => ?_)
  · exact ⟨S0, S1, S2⟩
  clear hKq Kq
  (try simp only [Act.put, tC, tD, tE])
  refine wpAnyH_done (by kernel_rfl) ?_ _
  clear hHeld S0 S1 S2
  go_wp2_with fail
  exact bodyPost_ret (v := .agg #[.int .i64 spin, .int .u64 most, .slice A3 D.length cap3]) (by simp [results, Tryz.results35, go_sem, d0, d1, d2]) rfl (HFN.out _ _ _ _ HBW.out.size HR4.out HB4.out)
end Go.Proofs.YtpmafdggbeppcaaGreatDoor.S3
