/- Texts of this seat, one behind the other. -/
import Derived.Test.YtokplfkhpjcfcaaGreatMLawVoid161
import Derived.Test.YtokplfkhpjcfcaaGreatMLawVoid1629
set_option linter.unusedVariables false
set_option linter.unusedSimpArgs false
set_option linter.unusedVariables false
set_option linter.unusedSimpArgs false
namespace Go.Proofs.YtokplfkhpjcfcaaGreat.S16
set_option maxRecDepth 100000
set_option maxHeartbeats 16000000
open Go.Proofs.YtokplfkhpjcfcaaGreat Go.Proofs.YtokplfkhpjcfcaaGreat.S11 Go.Proofs.YtokplfkhpjcfcaaGreat.S12 Go.Proofs.YtokplfkhpjcfcaaGreat.S13 Go.Proofs.YtokplfkhpjcfcaaGreat.S14 Go.Proofs.YtokplfkhpjcfcaaGreat.S15
open Go.RowKit
def restA (LB i c : Nat) : Option Addr := if c = 0 then some ⟨LB, i, none⟩ else some ⟨LB, i + 1, none⟩
theorem todo_take {w : World} {B ix LB i n c WB : Nat} {V : Nat} {Q : Bool → World → Prop} (hn : n < 1000) (hnc : n ≤ c) (hc2 : c < 9223372036854775808)
    (c0 : w.cell? ⟨B, ix, none⟩ = some (.slice (some ⟨LB, i, none⟩) (n + 1) (c + 1))) (f0 : w.frozen? ⟨B, ix, none⟩ = false)
    (e1 : (w.setCell ⟨B, ix, none⟩ (.slice (restA LB i c) n c)).cell? ⟨LB, i, none⟩ = some (takeF V))
    (hc : Calls Tryz.prog 145 #[Pw WB, Pw V] (w.setCell ⟨B, ix, none⟩ (.slice (restA LB i c) n c)) fun e w' => ∃ b, e = .returned (.bool b) ∧ Q b w')
    (hf : ∀ w', Q false w' → w'.frozen? ⟨B, ix, none⟩ = false ∧ ∃ v, w'.cell? ⟨B, ix, none⟩ = some v) :
    Calls Tryz.prog 66 #[.pointer (some ⟨B, ix, none⟩), Pw WB] w fun e w' => e = .returned (.tuple #[]) ∧ (Q true w' ∨ ∃ w2, Q false w2 ∧ w' = w2.setCell ⟨B, ix, none⟩ (.slice (some ⟨LB, i, none⟩) (n + 1) (c + 1))) := by
  obtain ⟨P, hP⟩ : ∃ P, P = restA LB i c := ⟨_, rfl⟩
  rw [← hP] at e1 hc
  have hP2 : (if c = 0 then some (⟨LB, i, none⟩ : Addr) else some ⟨LB, i + 1, none⟩) = P := hP.symm
  have HC := Lib.hid hc; have HF := Lib.hid hf; have HP := Lib.hid hP2
  clear hc hf hP hP2
  go_enter Tryz.func66, Tryz.ntmps66
  go_upto_region 2 with (fail)
  rw [HP.out]
  clear HP c0 f0
  generalize w.setCell ⟨B, ix, none⟩ (.slice P n c) = w1 at *
  go_upto_if 17 with (go_at_call 145; refine HC.out.mono ?_; rintro e w2 ⟨b, rfl, hq⟩; have HQ := Lib.hid hq; clear hq)
  cases b
  · obtain ⟨f2, v2, c2⟩ := HF.out _ HQ.out
    go_wp2_with fail
    go_end0
    exact ⟨rfl, .inr ⟨_, HQ.out, rfl⟩⟩
  · go_wp2_with fail
    go_end0
    exact ⟨rfl, .inl HQ.out⟩
theorem todo_leave {w : World} {B ix LB i n c WB : Nat} {V : Nat} {Q : Bool → World → Prop} (hn : n < 1000) (hnc : n ≤ c) (hc2 : c < 9223372036854775808)
    (c0 : w.cell? ⟨B, ix, none⟩ = some (.slice (some ⟨LB, i, none⟩) (n + 1) (c + 1))) (f0 : w.frozen? ⟨B, ix, none⟩ = false)
    (e1 : (w.setCell ⟨B, ix, none⟩ (.slice (restA LB i c) n c)).cell? ⟨LB, i, none⟩ = some (leaveF V))
    (hc : Calls Tryz.prog 122 #[Pw WB, Pw V] (w.setCell ⟨B, ix, none⟩ (.slice (restA LB i c) n c)) fun e w' => ∃ b, e = .returned (.bool b) ∧ Q b w')
    (hf : ∀ w', Q false w' → w'.frozen? ⟨B, ix, none⟩ = false ∧ ∃ v, w'.cell? ⟨B, ix, none⟩ = some v) :
    Calls Tryz.prog 66 #[.pointer (some ⟨B, ix, none⟩), Pw WB] w fun e w' => e = .returned (.tuple #[]) ∧ (Q true w' ∨ ∃ w2, Q false w2 ∧ w' = w2.setCell ⟨B, ix, none⟩ (.slice (some ⟨LB, i, none⟩) (n + 1) (c + 1))) := by
  obtain ⟨P, hP⟩ : ∃ P, P = restA LB i c := ⟨_, rfl⟩
  rw [← hP] at e1 hc
  have hP2 : (if c = 0 then some (⟨LB, i, none⟩ : Addr) else some ⟨LB, i + 1, none⟩) = P := hP.symm
  have HC := Lib.hid hc; have HF := Lib.hid hf; have HP := Lib.hid hP2
  clear hc hf hP hP2
  go_enter Tryz.func66, Tryz.ntmps66
  go_upto_region 2 with (fail)
  rw [HP.out]
  clear HP c0 f0
  generalize w.setCell ⟨B, ix, none⟩ (.slice P n c) = w1 at *
  go_upto_if 17 with (go_at_call 122; refine HC.out.mono ?_; rintro e w2 ⟨b, rfl, hq⟩; have HQ := Lib.hid hq; clear hq)
  cases b
  · obtain ⟨f2, v2, c2⟩ := HF.out _ HQ.out
    go_wp2_with fail
    go_end0
    exact ⟨rfl, .inr ⟨_, HQ.out, rfl⟩⟩
  · go_wp2_with fail
    go_end0
    exact ⟨rfl, .inl HQ.out⟩
theorem todo_look {w : World} {B ix LB i n c WB : Nat} {XB TB : Nat} {Q : Bool → World → Prop} (hn : n < 1000) (hnc : n ≤ c) (hc2 : c < 9223372036854775808)
    (c0 : w.cell? ⟨B, ix, none⟩ = some (.slice (some ⟨LB, i, none⟩) (n + 1) (c + 1))) (f0 : w.frozen? ⟨B, ix, none⟩ = false)
    (e1 : (w.setCell ⟨B, ix, none⟩ (.slice (restA LB i c) n c)).cell? ⟨LB, i, none⟩ = some (lookF XB TB))
    (hc : Calls Tryz.prog 116 #[Pw WB, Pw XB, Pw TB] (w.setCell ⟨B, ix, none⟩ (.slice (restA LB i c) n c)) fun e w' => ∃ b, e = .returned (.bool b) ∧ Q b w')
    (hf : ∀ w', Q false w' → w'.frozen? ⟨B, ix, none⟩ = false ∧ ∃ v, w'.cell? ⟨B, ix, none⟩ = some v) :
    Calls Tryz.prog 66 #[.pointer (some ⟨B, ix, none⟩), Pw WB] w fun e w' => e = .returned (.tuple #[]) ∧ (Q true w' ∨ ∃ w2, Q false w2 ∧ w' = w2.setCell ⟨B, ix, none⟩ (.slice (some ⟨LB, i, none⟩) (n + 1) (c + 1))) := by
  obtain ⟨P, hP⟩ : ∃ P, P = restA LB i c := ⟨_, rfl⟩
  rw [← hP] at e1 hc
  have hP2 : (if c = 0 then some (⟨LB, i, none⟩ : Addr) else some ⟨LB, i + 1, none⟩) = P := hP.symm
  have HC := Lib.hid hc; have HF := Lib.hid hf; have HP := Lib.hid hP2
  clear hc hf hP hP2
  go_enter Tryz.func66, Tryz.ntmps66
  go_upto_region 2 with (fail)
  rw [HP.out]
  clear HP c0 f0
  generalize w.setCell ⟨B, ix, none⟩ (.slice P n c) = w1 at *
  go_upto_if 17 with (go_at_call 116; refine HC.out.mono ?_; rintro e w2 ⟨b, rfl, hq⟩; have HQ := Lib.hid hq; clear hq)
  cases b
  · obtain ⟨f2, v2, c2⟩ := HF.out _ HQ.out
    go_wp2_with fail
    go_end0
    exact ⟨rfl, .inr ⟨_, HQ.out, rfl⟩⟩
  · go_wp2_with fail
    go_end0
    exact ⟨rfl, .inl HQ.out⟩
theorem todo_ask {w : World} {B ix LB i n c WB : Nat} {KB OB XB TB : Nat} {Q : Bool → World → Prop} (hn : n < 1000) (hnc : n ≤ c) (hc2 : c < 9223372036854775808)
    (c0 : w.cell? ⟨B, ix, none⟩ = some (.slice (some ⟨LB, i, none⟩) (n + 1) (c + 1))) (f0 : w.frozen? ⟨B, ix, none⟩ = false)
    (e1 : (w.setCell ⟨B, ix, none⟩ (.slice (restA LB i c) n c)).cell? ⟨LB, i, none⟩ = some (askF KB OB XB TB))
    (hc : Calls Tryz.prog 147 #[Pw WB, Pw KB, Pw OB, Pw XB, Pw TB] (w.setCell ⟨B, ix, none⟩ (.slice (restA LB i c) n c)) fun e w' => ∃ b, e = .returned (.bool b) ∧ Q b w')
    (hf : ∀ w', Q false w' → w'.frozen? ⟨B, ix, none⟩ = false ∧ ∃ v, w'.cell? ⟨B, ix, none⟩ = some v) :
    Calls Tryz.prog 66 #[.pointer (some ⟨B, ix, none⟩), Pw WB] w fun e w' => e = .returned (.tuple #[]) ∧ (Q true w' ∨ ∃ w2, Q false w2 ∧ w' = w2.setCell ⟨B, ix, none⟩ (.slice (some ⟨LB, i, none⟩) (n + 1) (c + 1))) := by
  obtain ⟨P, hP⟩ : ∃ P, P = restA LB i c := ⟨_, rfl⟩
  rw [← hP] at e1 hc
  have hP2 : (if c = 0 then some (⟨LB, i, none⟩ : Addr) else some ⟨LB, i + 1, none⟩) = P := hP.symm
  have HC := Lib.hid hc; have HF := Lib.hid hf; have HP := Lib.hid hP2
  clear hc hf hP hP2
  go_enter Tryz.func66, Tryz.ntmps66
  go_upto_region 2 with (fail)
  rw [HP.out]
  clear HP c0 f0
  generalize w.setCell ⟨B, ix, none⟩ (.slice P n c) = w1 at *
  go_upto_if 17 with (go_at_call 147; refine HC.out.mono ?_; rintro e w2 ⟨b, rfl, hq⟩; have HQ := Lib.hid hq; clear hq)
  cases b
  · obtain ⟨f2, v2, c2⟩ := HF.out _ HQ.out
    go_wp2_with fail
    go_end0
    exact ⟨rfl, .inr ⟨_, HQ.out, rfl⟩⟩
  · go_wp2_with fail
    go_end0
    exact ⟨rfl, .inl HQ.out⟩
def pairC (a b : Nat) (b1 i1 b2 i2 : Int) (left : Value) : Array Value := #[.int .u32 (a : Int), .int .u32 (b : Int), .int .i64 b1, .int .i64 i1, .int .i64 b2, .int .i64 i2, left]
section
variable {w0 w w' : World} {base WB : Nat} {M : Sd} {r : List Part} {j u U : Nat} {l l' : Rows} {X : Wm}
theorem ask_same (h : Wq w0 w base WB M r j l X) (hn : M.n ≤ 1000000000) {x tw : Nat} (hx : x = S2.look M.L 0) (hxe : x = tw) {k0 kk kx ko B KB OB XB TB a b : Nat} {b1 i1 b2 i2 p1 q1 p2 q2 : Int} {left : Value}
    (hb : l[k0]? = some (B, .cells (pairC a b p1 q1 p2 q2 left) 76 (0, 0))) (hkb : l[kk]? = some (KB, .cells #[.int .u64 (tw : Int)] 22 (0, 0))) (hxb : l[kx]? = some (XB, .cells #[Pw B] 80 (0, 0)))
    (hob : l[ko]? = some (OB, .cells #[.int .i64 b1, .int .i64 i1, .int .i64 b2, .int .i64 i2] 72 (0, 0))) (hpl : b1 = b2 ∧ i1 = i2) :
    Calls Tryz.prog 147 #[Pw WB, Pw KB, Pw OB, Pw XB, Pw TB] w fun e w' => e = .returned (.bool true) ∧ ∃ X', Wq w0 w' base WB (M.acc 1 0 x) r j (l.set k0 (B, .cells (pairC a b p1 q1 p2 q2 (.slice none 0 0)) 76 (0, 0))) X' := by
  obtain ⟨cb, hcb⟩ : ∃ cb, X.cB = cb := ⟨_, rfl⟩
  have HCB := Lib.hid hcb; have HX := Lib.hid h; have HKB := Lib.hid hkb
  have hld : ∀ W X', Wq w0 W base WB M r j l X' → X'.cB = cb → Calls Tryz.prog 117 #[Pw cb, .int .u32 0] W fun e w' => e = .returned (.int .u64 (x : Int)) ∧ ∃ X5, Wq w0 w' base WB (M.acc 1 0 x) r j l X5 ∧ X5.cB = cb := fun W X' hW hc => by
    subst hc
    rw [hx]
    exact hW.load (a := 0) (by omega) hn
  have HLD := Lib.hid hld
  have hne : ((x : Int) != (tw : Int)) = false := by rw [hxe]; simp
  have hne2 : (!decide ((x : Int) = (tw : Int))) = false := by rw [hxe]; simp
  obtain ⟨e1, e2⟩ := hpl
  subst e1 e2
  have HB := Lib.hid hb; have HXB := Lib.hid hxb; have HOB := Lib.hid hob
  clear h hn hx hxe hcb hld hb hkb hxb hob
  go_enter Tryz.func147, Tryz.ntmps147
  go_upto_region 1 with (fail)
  refine wp_region_held_drew (S := fun w' => w'.cell? ⟨WB, 0, none⟩ = some (Pw cb) ∧ w'.cell? ⟨KB, 0, none⟩ = some (.int .u64 (tw : Int))) (by kernel_rfl) ?_ (fun hHeld => ?_)
  · exact ⟨by rw [← HCB.out]; exact (HX.out.new (Below.refl _ _).drew).pg.c.1, cell_row ((HX.out.new (Below.refl _ _).drew).blk _ HKB.out) 0⟩
  refine tA 0 ⟨some 7, .move (.tmp 0), 35, "pairs.go:94", #[], none⟩ ?vsm1 ?rsm1
  (try simp only [Act.put, tC, tD, tE])
  refine tA 1 ⟨some 8, .nilCheck (.tmp 7), 0, "pairs.go:94", #[⟨0, .data⟩], none⟩ ?vsm2 ?rsm2
  (try simp only [Act.put, tC, tD, tE])
  refine tA 2 ⟨some 9, .fieldAddr 104 (.tmp 8) 0, 0, "pairs.go:94", #[⟨1, .data⟩], none⟩ ?vsm3 ?rsm3
  (try simp only [Act.put, tC, tD, tE])
  refine tA 3 ⟨some 10, .load 96 (.tmp 9), 96, "pairs.go:94", #[⟨2, .data⟩], none⟩ ?vsm4 ?rsm4
  (try simp only [Act.put, tC, tD, tE])
  refine tA 5 ⟨some 12, .load 22 (.tmp 1), 22, "pairs.go:94", #[], none⟩ ?vsm5 ?rsm5
  (try simp only [Act.put, tC, tD, tE])
  refine wpAnyH_ready (rs := [4]) (by kernel_rfl) (by simp) ?_
  refine AllReadyH.cons (o := ⟨some 11, .call ⟨.value (.func 117), #[.tmp 10, .const (.int .u32 0)], #[96, 24]⟩, 22, "pairs.go:94", #[⟨3, .data⟩], none⟩) rfl (fun Kq hKq => ?_) AllReadyH.nil
  go_simp
  (refine (HLD.out _ X (HX.out.new (Below.refl _ _).drew) HCB.out).mono ?_; rintro e w1 ⟨rfl, X1, h1, hc1⟩; have H1 := Lib.hid h1; have HC1 := Lib.hid hc1; clear h1 hc1)
  refine hKq.out _ _ ?_ (fun hHeld => ?_)
  · exact ⟨by rw [← HC1.out]; exact H1.out.pg.c.1, cell_row (H1.out.blk _ HKB.out) 0⟩
  clear hKq Kq
  (try simp only [Act.put, tC, tD, tE])
  refine tA 6 ⟨some 13, .binOp .neq 22 (.tmp 11) (.tmp 12) 22, 4, "pairs.go:94", #[⟨4, .data⟩, ⟨5, .data⟩], none⟩ ?vsm6 ?rsm6
  (try simp only [Act.put, tC, tD, tE])
  refine wpAnyH_done (by kernel_rfl) ?_ _
  clear hHeld HLD HX
  have o0 : w1.cell? ⟨OB, 0, none⟩ = some (.int .i64 b1) := cell_row (H1.out.blk _ HOB.out) 0
  have o1 : w1.cell? ⟨OB, 1, none⟩ = some (.int .i64 i1) := cell_row (H1.out.blk _ HOB.out) 1
  have o2 : w1.cell? ⟨OB, 2, none⟩ = some (.int .i64 b1) := cell_row (H1.out.blk _ HOB.out) 2
  have o3 : w1.cell? ⟨OB, 3, none⟩ = some (.int .i64 i1) := cell_row (H1.out.blk _ HOB.out) 3
  have x0 : w1.cell? ⟨XB, 0, none⟩ = some (Pw B) := cell_row (H1.out.blk _ HXB.out) 0
  have y0 : w1.cell? ⟨B, 6, none⟩ = some left := cell_row (H1.out.blk _ HB.out) 6
  have f0 : w1.frozen? ⟨B, 6, none⟩ = false := froz_row (H1.out.blk _ HB.out) 6
  go_wp2_with fail
  go_ret
  exact ⟨rfl, X1, H1.out.put _ HB.out 6 _ rfl⟩
theorem ask_two (h : Wq w0 w base WB M r j l X) (hn : M.n ≤ 1000000000) {x tw : Nat} (hx : x = S2.look M.L 0) (hxe : x = tw) {k0 kk kx ko B KB OB XB TB a b : Nat} {b1 i1 b2 i2 p1 q1 p2 q2 : Int} {left : Value}
    (hb : l[k0]? = some (B, .cells (pairC a b p1 q1 p2 q2 left) 76 (0, 0))) (hkb : l[kk]? = some (KB, .cells #[.int .u64 (tw : Int)] 22 (0, 0))) (hxb : l[kx]? = some (XB, .cells #[Pw B] 80 (0, 0)))
    (hob : l[ko]? = some (OB, .cells #[.int .i64 b1, .int .i64 i1, .int .i64 b2, .int .i64 i2] 72 (0, 0))) (hpl : ¬ (b1 = b2 ∧ i1 = i2)) :
    Calls Tryz.prog 147 #[Pw WB, Pw KB, Pw OB, Pw XB, Pw TB] w fun e w' => e = .returned (.bool true) ∧ ∃ X', Wq w0 w' base WB (M.acc 1 0 x) r j l X' := by
  obtain ⟨cb, hcb⟩ : ∃ cb, X.cB = cb := ⟨_, rfl⟩
  have HCB := Lib.hid hcb; have HX := Lib.hid h; have HKB := Lib.hid hkb
  have hld : ∀ W X', Wq w0 W base WB M r j l X' → X'.cB = cb → Calls Tryz.prog 117 #[Pw cb, .int .u32 0] W fun e w' => e = .returned (.int .u64 (x : Int)) ∧ ∃ X5, Wq w0 w' base WB (M.acc 1 0 x) r j l X5 ∧ X5.cB = cb := fun W X' hW hc => by
    subst hc
    rw [hx]
    exact hW.load (a := 0) (by omega) hn
  have HLD := Lib.hid hld
  have hne : ((x : Int) != (tw : Int)) = false := by rw [hxe]; simp
  have hne2 : (!decide ((x : Int) = (tw : Int))) = false := by rw [hxe]; simp
  have HPL := Lib.hid hpl
  have HB := Lib.hid hb; have HXB := Lib.hid hxb; have HOB := Lib.hid hob
  clear h hn hx hxe hcb hld hb hkb hxb hob hpl
  go_enter Tryz.func147, Tryz.ntmps147
  go_upto_region 1 with (fail)
  refine wp_region_held_drew (S := fun w' => w'.cell? ⟨WB, 0, none⟩ = some (Pw cb) ∧ w'.cell? ⟨KB, 0, none⟩ = some (.int .u64 (tw : Int))) (by kernel_rfl) ?_ (fun hHeld => ?_)
  · exact ⟨by rw [← HCB.out]; exact (HX.out.new (Below.refl _ _).drew).pg.c.1, cell_row ((HX.out.new (Below.refl _ _).drew).blk _ HKB.out) 0⟩
  refine tA 0 ⟨some 7, .move (.tmp 0), 35, "pairs.go:94", #[], none⟩ ?vtm1 ?rtm1
  (try simp only [Act.put, tC, tD, tE])
  refine tA 1 ⟨some 8, .nilCheck (.tmp 7), 0, "pairs.go:94", #[⟨0, .data⟩], none⟩ ?vtm2 ?rtm2
  (try simp only [Act.put, tC, tD, tE])
  refine tA 2 ⟨some 9, .fieldAddr 104 (.tmp 8) 0, 0, "pairs.go:94", #[⟨1, .data⟩], none⟩ ?vtm3 ?rtm3
  (try simp only [Act.put, tC, tD, tE])
  refine tA 3 ⟨some 10, .load 96 (.tmp 9), 96, "pairs.go:94", #[⟨2, .data⟩], none⟩ ?vtm4 ?rtm4
  (try simp only [Act.put, tC, tD, tE])
  refine tA 5 ⟨some 12, .load 22 (.tmp 1), 22, "pairs.go:94", #[], none⟩ ?vtm5 ?rtm5
  (try simp only [Act.put, tC, tD, tE])
  refine wpAnyH_ready (rs := [4]) (by kernel_rfl) (by simp) ?_
  refine AllReadyH.cons (o := ⟨some 11, .call ⟨.value (.func 117), #[.tmp 10, .const (.int .u32 0)], #[96, 24]⟩, 22, "pairs.go:94", #[⟨3, .data⟩], none⟩) rfl (fun Kq hKq => ?_) AllReadyH.nil
  go_simp
  (refine (HLD.out _ X (HX.out.new (Below.refl _ _).drew) HCB.out).mono ?_; rintro e w1 ⟨rfl, X1, h1, hc1⟩; have H1 := Lib.hid h1; have HC1 := Lib.hid hc1; clear h1 hc1)
  refine hKq.out _ _ ?_ (fun hHeld => ?_)
  · exact ⟨by rw [← HC1.out]; exact H1.out.pg.c.1, cell_row (H1.out.blk _ HKB.out) 0⟩
  clear hKq Kq
  (try simp only [Act.put, tC, tD, tE])
  refine tA 6 ⟨some 13, .binOp .neq 22 (.tmp 11) (.tmp 12) 22, 4, "pairs.go:94", #[⟨4, .data⟩, ⟨5, .data⟩], none⟩ ?vtm6 ?rtm6
  (try simp only [Act.put, tC, tD, tE])
  refine wpAnyH_done (by kernel_rfl) ?_ _
  clear hHeld HLD HX
  have o0 : w1.cell? ⟨OB, 0, none⟩ = some (.int .i64 b1) := cell_row (H1.out.blk _ HOB.out) 0
  have o1 : w1.cell? ⟨OB, 1, none⟩ = some (.int .i64 i1) := cell_row (H1.out.blk _ HOB.out) 1
  have o2 : w1.cell? ⟨OB, 2, none⟩ = some (.int .i64 b2) := cell_row (H1.out.blk _ HOB.out) 2
  have o3 : w1.cell? ⟨OB, 3, none⟩ = some (.int .i64 i2) := cell_row (H1.out.blk _ HOB.out) 3
  go_upto_if 28 with (fail)
  all_goals first
    | exact (HPL.out ⟨by assumption, by assumption⟩).elim
    | (go_wp2_with fail
       go_ret
       exact ⟨rfl, X1, H1.out⟩)
theorem ask_else (h : Wq w0 w base WB M r j l X) (hn : M.n ≤ 1000000000) (hju : j ≠ u) (hu : u < r.length) {x tw : Nat} (hx : x = S2.look M.L 0) (hxe : x ≠ tw) {k0 kk kx ko kt B KB OB XB TB a b t la : Nat} {b1 i1 b2 i2 p1 q1 p2 q2 : Int} {left : Value}
    (hb : l[k0]? = some (B, .cells (pairC a b p1 q1 p2 q2 left) 76 (0, 0))) (hkb : l[kk]? = some (KB, .cells #[.int .u64 (tw : Int)] 22 (0, 0))) (hxb : l[kx]? = some (XB, .cells #[Pw B] 80 (0, 0))) (htb : l[kt]? = some (TB, .cells #[.int .i64 (t : Int)] 3 (0, 0)))
    (hob : l[ko]? = some (OB, .cells #[.int .i64 b1, .int .i64 i1, .int .i64 b2, .int .i64 i2] 72 (0, 0))) (hz : S10.lockZ b1 i1 = (la : Int)) (hne0 : k0 ≠ kx ∧ k0 ≠ kt ∧ k0 ≠ ko) :
    Calls Tryz.prog 147 #[Pw WB, Pw KB, Pw OB, Pw XB, Pw TB] w fun e w' => e = .returned (.bool true) ∧ ∃ X' V U XC TC LB, Wq w0 w' base WB (M.acc 1 0 x) (r.set u (freeP U (fr0 la))) j [(B, .cells (pairC a b p1 q1 p2 q2 (.slice (some ⟨LB, 0, none⟩) 2 2)) 76 (0, 0)), (V, .cells #[Pw U] 270 (0, 0)), (XC, .cells #[Pw B] 80 (0, 0)), (TC, .cells #[.int .i64 (t : Int)] 3 (0, 0)), (LB, .cells #[leaveF V, lookF XC TC] 167 (0, 0))] X' := by
  obtain ⟨cb, hcb⟩ : ∃ cb, X.cB = cb := ⟨_, rfl⟩
  have HCB := Lib.hid hcb; have HX := Lib.hid h; have HKB := Lib.hid hkb
  have hld : ∀ W X', Wq w0 W base WB M r j l X' → X'.cB = cb → Calls Tryz.prog 117 #[Pw cb, .int .u32 0] W fun e w' => e = .returned (.int .u64 (x : Int)) ∧ ∃ X5, Wq w0 w' base WB (M.acc 1 0 x) r j l X5 ∧ X5.cB = cb := fun W X' hW hc => by
    subst hc
    rw [hx]
    exact hW.load (a := 0) (by omega) hn
  have HLD := Lib.hid hld
  have hne : ((x : Int) != (tw : Int)) = true := by simp; omega
  have hne2 : (!decide ((x : Int) = (tw : Int))) = true := by simp; omega
  have HB := Lib.hid hb; have HXB := Lib.hid hxb; have HOB := Lib.hid hob; have HTB := Lib.hid htb; have HJU := Lib.hid hju; have HU := Lib.hid hu; have HZ := Lib.hid hz; have HNE := Lib.hid hne0; have HKL := Lib.hid (List.getElem?_eq_some_iff.1 hb).1
  clear hne0 h hn hx hxe hcb hld hb hkb hxb hob htb hju hu hz
  go_enter Tryz.func147, Tryz.ntmps147
  go_upto_region 1 with (fail)
  refine wp_region_held_drew (S := fun w' => w'.cell? ⟨WB, 0, none⟩ = some (Pw cb) ∧ w'.cell? ⟨KB, 0, none⟩ = some (.int .u64 (tw : Int))) (by kernel_rfl) ?_ (fun hHeld => ?_)
  · exact ⟨by rw [← HCB.out]; exact (HX.out.new (Below.refl _ _).drew).pg.c.1, cell_row ((HX.out.new (Below.refl _ _).drew).blk _ HKB.out) 0⟩
  refine tA 0 ⟨some 7, .move (.tmp 0), 35, "pairs.go:94", #[], none⟩ ?vem1 ?rem1
  (try simp only [Act.put, tC, tD, tE])
  refine tA 1 ⟨some 8, .nilCheck (.tmp 7), 0, "pairs.go:94", #[⟨0, .data⟩], none⟩ ?vem2 ?rem2
  (try simp only [Act.put, tC, tD, tE])
  refine tA 2 ⟨some 9, .fieldAddr 104 (.tmp 8) 0, 0, "pairs.go:94", #[⟨1, .data⟩], none⟩ ?vem3 ?rem3
  (try simp only [Act.put, tC, tD, tE])
  refine tA 3 ⟨some 10, .load 96 (.tmp 9), 96, "pairs.go:94", #[⟨2, .data⟩], none⟩ ?vem4 ?rem4
  (try simp only [Act.put, tC, tD, tE])
  refine tA 5 ⟨some 12, .load 22 (.tmp 1), 22, "pairs.go:94", #[], none⟩ ?vem5 ?rem5
  (try simp only [Act.put, tC, tD, tE])
  refine wpAnyH_ready (rs := [4]) (by kernel_rfl) (by simp) ?_
  refine AllReadyH.cons (o := ⟨some 11, .call ⟨.value (.func 117), #[.tmp 10, .const (.int .u32 0)], #[96, 24]⟩, 22, "pairs.go:94", #[⟨3, .data⟩], none⟩) rfl (fun Kq hKq => ?_) AllReadyH.nil
  go_simp
  (refine (HLD.out _ X (HX.out.new (Below.refl _ _).drew) HCB.out).mono ?_; rintro e w1 ⟨rfl, X1, h1, hc1⟩; have H1 := Lib.hid h1; have HC1 := Lib.hid hc1; clear h1 hc1)
  refine hKq.out _ _ ?_ (fun hHeld => ?_)
  · exact ⟨by rw [← HC1.out]; exact H1.out.pg.c.1, cell_row (H1.out.blk _ HKB.out) 0⟩
  clear hKq Kq
  (try simp only [Act.put, tC, tD, tE])
  refine tA 6 ⟨some 13, .binOp .neq 22 (.tmp 11) (.tmp 12) 22, 4, "pairs.go:94", #[⟨4, .data⟩, ⟨5, .data⟩], none⟩ ?vem6 ?rem6
  (try simp only [Act.put, tC, tD, tE])
  refine wpAnyH_done (by kernel_rfl) ?_ _
  clear hHeld HLD HX
  go_upto_region 2 with (fail)
  refine wp_region_held_drew (S := fun w' => w'.cell? ⟨XB, 0, none⟩ = some (Pw B) ∧ w'.cell? ⟨TB, 0, none⟩ = some (.int .i64 (t : Int)) ∧ w'.cell? ⟨OB, 0, none⟩ = some (.int .i64 b1) ∧ w'.cell? ⟨OB, 1, none⟩ = some (.int .i64 i1)) (by kernel_rfl) ?_ (fun hHeld => ?_)
  · exact ⟨cell_row ((H1.out.new (Below.refl _ _).drew).blk _ HXB.out) 0, cell_row ((H1.out.new (Below.refl _ _).drew).blk _ HTB.out) 0, cell_row ((H1.out.new (Below.refl _ _).drew).blk _ HOB.out) 0, cell_row ((H1.out.new (Below.refl _ _).drew).blk _ HOB.out) 1⟩
  refine tA 0 ⟨some 14, .load 80 (.tmp 3), 80, "pairs.go:95", #[], none⟩ ?vfm1 ?rfm1
  (try simp only [Act.put, tC, tD, tE])
  refine tA 1 ⟨some 15, .indexAddr 72 (.tmp 2) (.const (.int .i64 0)), 0, "pairs.go:95", #[], none⟩ ?vfm2 ?rfm2
  (try simp only [Act.put, tC, tD, tE])
  refine tA 2 ⟨some 16, .load 27 (.tmp 15), 27, "pairs.go:95", #[⟨1, .data⟩], none⟩ ?vfm3 ?rfm3
  (try simp only [Act.put, tC, tD, tE])
  refine tA 4 ⟨some 18, .load 80 (.tmp 3), 80, "pairs.go:95", #[], none⟩ ?vfm4 ?rfm4
  (try simp only [Act.put, tC, tD, tE])
  refine tA 5 ⟨some 19, .load 3 (.tmp 4), 3, "pairs.go:95", #[], none⟩ ?vfm5 ?rfm5
  (try simp only [Act.put, tC, tD, tE])
  refine wpAnyH_ready (rs := [3]) (by kernel_rfl) (by simp) ?_
  refine AllReadyH.cons (o := ⟨some 17, .call ⟨.value (.func 67), #[.tmp 16], #[27]⟩, 167, "pairs.go:95", #[⟨2, .data⟩], none⟩) rfl (fun Kq hKq => ?_) AllReadyH.nil
  go_simp
  (refine (leave_new (H1.out.new (Below.refl _ _).drew) HJU.out HU.out HZ.out).mono ?_; rintro e w2 ⟨V, U, rfl, hv2, h2⟩; have H2 := Lib.hid h2; have HV := Lib.hid hv2; clear h2 hv2)
  refine hKq.out _ _ ?_ (fun hHeld => ?_)
  · exact ⟨cell_row (H2.out.blk _ (app1 HXB.out)) 0, cell_row (H2.out.blk _ (app1 HTB.out)) 0, cell_row (H2.out.blk _ (app1 HOB.out)) 0, cell_row (H2.out.blk _ (app1 HOB.out)) 1⟩
  clear hKq Kq
  (try simp only [Act.put, tC, tD, tE])
  refine wpAnyH_ready (rs := [6]) (by kernel_rfl) (by simp) ?_
  refine AllReadyH.cons (o := ⟨some 20, .call ⟨.value (.func 65), #[.tmp 18, .tmp 19], #[80, 3]⟩, 167, "pairs.go:95", #[⟨4, .data⟩, ⟨5, .data⟩, ⟨3, .chain⟩], none⟩) rfl (fun Kq hKq => ?_) AllReadyH.nil
  go_simp
  (refine (look_new B (t : Int) _).mono ?_; rintro e w3 ⟨rfl, rfl⟩; have h3 := (H2.out.push (.cells #[Pw B] 80)).push (.cells #[.int .i64 (t : Int)] 3); have H3 := Lib.hid h3; clear h3)
  refine hKq.out _ _ ?_ (fun hHeld => ?_)
  · exact ⟨cell_row (H3.out.blk _ (app3 HXB.out)) 0, cell_row (H3.out.blk _ (app3 HTB.out)) 0, cell_row (H3.out.blk _ (app3 HOB.out)) 0, cell_row (H3.out.blk _ (app3 HOB.out)) 1⟩
  clear hKq Kq
  (try simp only [Act.put, tC, tD, tE])
  refine wpAnyH_ready (rs := [7]) (by kernel_rfl) (by simp) ?_
  refine AllReadyH.cons (o := ⟨some 21, .buildSlice 74 2 #[(0, .tmp 17), (1, .tmp 20)], 74, "pairs.go:95", #[⟨3, .data⟩, ⟨6, .data⟩], none⟩) rfl (fun Kq hKq => ?_) AllReadyH.nil
  (go_simp; have h4 := H3.out.push (.cells #[leaveF V, lookF w2.heap.size (w2.heap.size + 1)] 167); simp only [alloc_size] at h4; have H4 := Lib.hid h4; clear h4; generalize (((w2.alloc (.cells #[Pw B] 80)).alloc (.cells #[.int .i64 (t : Int)] 3)).alloc (.cells #[leaveF V, lookF w2.heap.size (w2.heap.size + 1)] 167)) = w4 at *)
  refine hKq.out _ _ ?_ (fun hHeld => ?_)
  · exact ⟨cell_row (H4.out.blk _ (app4 HXB.out)) 0, cell_row (H4.out.blk _ (app4 HTB.out)) 0, cell_row (H4.out.blk _ (app4 HOB.out)) 0, cell_row (H4.out.blk _ (app4 HOB.out)) 1⟩
  clear hKq Kq
  (try simp only [Act.put, tC, tD, tE])
  refine tA 8 ⟨some 22, .nilCheck (.tmp 14), 0, "pairs.go:95", #[⟨0, .data⟩, ⟨0, .phase⟩, ⟨1, .phase⟩, ⟨2, .phase⟩, ⟨3, .phase⟩, ⟨4, .phase⟩, ⟨5, .phase⟩, ⟨6, .phase⟩, ⟨7, .phase⟩], none⟩ ?vfm6 ?rfm6
  (try simp only [Act.put, tC, tD, tE])
  refine tA 9 ⟨some 23, .fieldAddr 76 (.tmp 22) 2, 0, "pairs.go:95", #[⟨8, .data⟩, ⟨0, .phase⟩, ⟨1, .phase⟩, ⟨2, .phase⟩, ⟨3, .phase⟩, ⟨4, .phase⟩, ⟨5, .phase⟩, ⟨6, .phase⟩, ⟨7, .phase⟩], none⟩ ?vfm7 ?rfm7
  (try simp only [Act.put, tC, tD, tE])
  refine wpAnyH_ready (rs := [10]) (by kernel_rfl) (by simp) ?_
  refine AllReadyH.cons (o := ⟨none, .store 74 (.tmp 23) (.tmp 21), 0, "pairs.go:95", #[⟨9, .data⟩, ⟨7, .data⟩, ⟨6, .chain⟩, ⟨0, .phase⟩, ⟨1, .phase⟩, ⟨2, .phase⟩, ⟨3, .phase⟩, ⟨4, .phase⟩, ⟨5, .phase⟩, ⟨6, .phase⟩, ⟨7, .phase⟩], none⟩) rfl (fun Kq hKq => ?_) AllReadyH.nil
  (have y1 : w4.cell? ⟨B, 6, none⟩ = some left := cell_row (H4.out.blk _ (app4 HB.out)) 6; have f1 : w4.frozen? ⟨B, 6, none⟩ = false := froz_row (H4.out.blk _ (app4 HB.out)) 6; go_simp; have h5 := H4.out.put _ (app4 HB.out) 6 (.slice (some ⟨w2.heap.size + 1 + 1, 0, none⟩) 2 2) rfl; have H5 := Lib.hid h5; clear y1 f1 h5; generalize w4.setCell ⟨B, 6, none⟩ (.slice (some ⟨w2.heap.size + 1 + 1, 0, none⟩) 2 2) = w5 at *)
  refine hKq.out _ _ ?_ (fun hHeld => ?_)
  · exact ⟨cell_row (H5.out.blk _ (set_at2 (app4 HXB.out) HNE.out.1)) 0, cell_row (H5.out.blk _ (set_at2 (app4 HTB.out) HNE.out.2.1)) 0, cell_row (H5.out.blk _ (set_at2 (app4 HOB.out) HNE.out.2.2)) 0, cell_row (H5.out.blk _ (set_at2 (app4 HOB.out) HNE.out.2.2)) 1⟩
  clear hKq Kq
  (try simp only [Act.put, tC, tD, tE])
  refine wpAnyH_done (by kernel_rfl) ?_ _
  clear hHeld
  go_wp2_with fail
  go_ret
  have h6 := H5.out
  simp only [List.append_assoc, List.cons_append, List.nil_append] at h6
  exact ⟨rfl, X1, V, U, w2.heap.size, w2.heap.size + 1, w2.heap.size + 1 + 1, h6.keep HKL.out⟩
end
end Go.Proofs.YtokplfkhpjcfcaaGreat.S16
set_option linter.unusedVariables false
set_option linter.unusedSimpArgs false
namespace Go.Proofs.YtokplfkhpjcfcaaGreat.S16
set_option maxRecDepth 100000
set_option maxHeartbeats 16000000
open Go.Proofs.YtokplfkhpjcfcaaGreat Go.Proofs.YtokplfkhpjcfcaaGreat.S11 Go.Proofs.YtokplfkhpjcfcaaGreat.S12 Go.Proofs.YtokplfkhpjcfcaaGreat.S13 Go.Proofs.YtokplfkhpjcfcaaGreat.S14 Go.Proofs.YtokplfkhpjcfcaaGreat.S15
open Go.RowKit
theorem order_lt {bb ka kb : Nat} (h : kb < ka) (w : World) : Calls Tryz.prog 118 #[.agg #[.int .i64 (bb : Int), .int .i64 (ka : Int), .int .i64 (bb : Int), .int .i64 (kb : Int)]] w fun e w' => e = .returned (.agg #[.int .i64 (bb : Int), .int .i64 (kb : Int), .int .i64 (bb : Int), .int .i64 (ka : Int)]) ∧ Below w.heap.size w w' := by
  have h1 : decide (kb < ka) = true := decide_eq_true h
  have hb := (below1 w (.cells #[.int .i64 (bb : Int), .int .i64 (ka : Int), .int .i64 (bb : Int), .int .i64 (kb : Int)] 72)).alloc (by rw [alloc_size]; omega) (.cells #[.int .i64 (bb : Int), .int .i64 (kb : Int), .int .i64 (bb : Int), .int .i64 (ka : Int)] 72)
  have HB := Lib.hid hb
  clear h hb
  go_enter Tryz.func118, Tryz.ntmps118
  go_wp2_with fail
  exact bodyPost_ret (v := .agg #[.int .i64 (bb : Int), .int .i64 (kb : Int), .int .i64 (bb : Int), .int .i64 (ka : Int)]) (by simp [results, Tryz.results118, go_sem]) rfl ⟨rfl, HB.out⟩
theorem order_ge {bb ka kb : Nat} (h : ¬ kb < ka) (w : World) : Calls Tryz.prog 118 #[.agg #[.int .i64 (bb : Int), .int .i64 (ka : Int), .int .i64 (bb : Int), .int .i64 (kb : Int)]] w fun e w' => e = .returned (.agg #[.int .i64 (bb : Int), .int .i64 (ka : Int), .int .i64 (bb : Int), .int .i64 (kb : Int)]) ∧ Below w.heap.size w w' := by
  have h1 : decide (kb < ka) = false := decide_eq_false h
  have hb := (below1 w (.cells #[.int .i64 (bb : Int), .int .i64 (ka : Int), .int .i64 (bb : Int), .int .i64 (kb : Int)] 72)).alloc (by rw [alloc_size]; omega) (.cells #[.int .i64 (bb : Int), .int .i64 (ka : Int), .int .i64 (bb : Int), .int .i64 (kb : Int)] 72)
  have HB := Lib.hid hb
  clear h hb
  go_enter Tryz.func118, Tryz.ntmps118
  go_wp2_with fail
  exact bodyPost_ret (v := .agg #[.int .i64 (bb : Int), .int .i64 (ka : Int), .int .i64 (bb : Int), .int .i64 (kb : Int)]) (by simp [results, Tryz.results118, go_sem]) rfl ⟨rfl, HB.out⟩
theorem order_any (a b x : Nat) : ∃ m1 m2 : Nat, m1 = bktN (loK a b x) x ∧ m2 = bktN (hiK a b x) x ∧ ∀ (bb : Nat) (W : World), Calls Tryz.prog 118 #[.agg #[.int .i64 (bb : Int), .int .i64 (bktN a x : Int), .int .i64 (bb : Int), .int .i64 (bktN b x : Int)]] W fun e w' => e = .returned (.agg #[.int .i64 (bb : Int), .int .i64 (m1 : Int), .int .i64 (bb : Int), .int .i64 (m2 : Int)]) ∧ Below W.heap.size W w' := by
  obtain ⟨ka, hka⟩ : ∃ ka, ka = bktN a x := ⟨_, rfl⟩
  obtain ⟨kb, hkb⟩ : ∃ kb, kb = bktN b x := ⟨_, rfl⟩
  rw [← hka, ← hkb]
  by_cases h : kb < ka
  · have e1 : loK a b x = b := if_pos (by rw [← hka, ← hkb]; exact h)
    have e2 : hiK a b x = a := if_pos (by rw [← hka, ← hkb]; exact h)
    rw [e1, e2]
    exact ⟨kb, ka, hkb, hka, fun bb W => order_lt h W⟩
  · have e1 : loK a b x = a := if_neg (by rw [← hka, ← hkb]; exact h)
    have e2 : hiK a b x = b := if_neg (by rw [← hka, ← hkb]; exact h)
    rw [e1, e2]
    exact ⟨ka, kb, hka, hkb, fun bb W => order_ge h W⟩
def twoL (B OR V1 XC TC KB OB V2 LB a b t x U1 U2 i n : Nat) : Rows :=
  [(B, .cells (pairC a b (bitsN x) (bktN a x) (bitsN x) (bktN b x) (.slice (some ⟨LB, i, none⟩) n n)) 76 (0, 0)), (OR, .cells #[.int .i64 (bitsN x : Int), .int .i64 (bktN (loK a b x) x : Int), .int .i64 (bitsN x : Int), .int .i64 (bktN (hiK a b x) x : Int)] 72 (0, 0)), (V1, .cells #[Pw U1] 293 (0, 0)), (XC, .cells #[Pw B] 80 (0, 0)), (TC, .cells #[.int .i64 (t : Int)] 3 (0, 0)), (KB, .cells #[.int .u64 (x : Int)] 22 (0, 0)), (OB, .cells #[.int .i64 (bitsN x : Int), .int .i64 (bktN (loK a b x) x : Int), .int .i64 (bitsN x : Int), .int .i64 (bktN (hiK a b x) x : Int)] 72 (0, 0)), (V2, .cells #[Pw U2] 293 (0, 0)), (LB, .cells #[takeF V1, askF KB OB XC TC, takeF V2] 167 (0, 0))]
section
variable {w0 w w' : World} {base WB : Nat} {M : Sd} {r : List Part} {j u v U : Nat} {l l' : Rows} {X : Wm}
theorem look_step (h : Wq w0 w base WB M r j l X) (hn : M.n ≤ 1000000000) (hju : j ≠ u) (hjv : j ≠ v) (huv : u ≠ v) (hu : u < r.length) (hv : v < r.length) {x : Nat} (hx : x = S2.look M.L 0) {k0 kx kt B XB TB a b t : Nat} {p1 q1 p2 q2 : Int} {left : Value} (ht : t < 64) (ha : a < 4294967296) (hbl : b < 4294967296)
    (hb : l[k0]? = some (B, .cells (pairC a b p1 q1 p2 q2 left) 76 (0, 0))) (hxb : l[kx]? = some (XB, .cells #[Pw B] 80 (0, 0))) (htb : l[kt]? = some (TB, .cells #[.int .i64 (t : Int)] 3 (0, 0))) (hne : k0 ≠ kx) (hne2 : k0 ≠ kt) :
    Calls Tryz.prog 116 #[Pw WB, Pw XB, Pw TB] w fun e w' => e = .returned (.bool true) ∧ ∃ X' U1 U2 OR V1 XC TC KB OB V2 LB, Wq w0 w' base WB (M.acc 1 0 x) ((r.set u (lockP U1 (lk1 t (lokN (loK a b x) x)))).set v (lockP U2 (lk1 t (lokN (hiK a b x) x)))) j (twoL B OR V1 XC TC KB OB V2 LB a b t x U1 U2 0 3) X' := by
  have hxu : x < 18446744073709551616 := by rw [hx]; exact h.look _
  have c1 : w.cell? ⟨WB, 0, none⟩ = some (Pw X.cB) := h.pg.c.1
  obtain ⟨cb, hcb⟩ : ∃ cb, X.cB = cb := ⟨_, rfl⟩
  have hd := h
  have hld : Calls Tryz.prog 117 #[Pw cb, .int .u32 0] w fun e w' => e = .returned (.int .u64 (x : Int)) ∧ ∃ X5, Wq w0 w' base WB (M.acc 1 0 x) r j l X5 := by
    subst hcb
    refine (hd.load (a := 0) (by omega) hn).mono ?_
    rintro e w' ⟨rfl, X5, h5, _⟩
    exact ⟨by rw [hx], X5, by rw [hx]; exact h5⟩
  obtain ⟨m1, m2, hm1, hm2, hord⟩ := order_any a b x
  have hpa := fun W => place_any a x ha hxu W
  have hpb := fun W => place_any b x hbl hxu W
  unfold placeV at hpa hpb
  obtain ⟨bb, hbb⟩ : ∃ bb, bb = bitsN x := ⟨_, rfl⟩
  obtain ⟨ka, hka⟩ : ∃ ka, ka = bktN a x := ⟨_, rfl⟩
  obtain ⟨kb, hkb⟩ : ∃ kb, kb = bktN b x := ⟨_, rfl⟩
  have hord2 := hord bb
  rw [← hka, ← hkb] at hord2
  rw [← hbb, ← hka] at hpa
  rw [← hbb, ← hkb] at hpb
  rw [hcb] at c1
  have HLD := Lib.hid hld; have HPA := Lib.hid hpa; have HPB := Lib.hid hpb; have HORD := Lib.hid hord2
  have HB0 := Lib.hid hb; have HXB := Lib.hid hxb; have HTB := Lib.hid htb; have HNE := Lib.hid hne; have HNE2 := Lib.hid hne2
  have HBB := Lib.hid hbb; have HKA := Lib.hid hka; have HKB := Lib.hid hkb; have HM1 := Lib.hid hm1; have HM2 := Lib.hid hm2
  have HUV := Lib.hid (And.intro hju (And.intro hjv (And.intro huv (And.intro hu hv)))); have HT := Lib.hid ht
  have HKL := Lib.hid (List.getElem?_eq_some_iff.1 hb).1
  clear h hd hld hn hx hxu hcb hord hord2 hpa hpb hb hxb htb hne hne2 hbb hka hkb hm1 hm2 hju hjv huv hu hv ht ha hbl
  have ix0 : ∀ W : World, (Instr.index 71 (.agg #[.int .u32 (a : Int), .int .u32 (b : Int)]) (.int .i64 0)).run Tryz.prog W = .ok (.int .u32 (a : Int)) W := fun W => by kernel_rfl
  have ix1 : ∀ W : World, (Instr.index 71 (.agg #[.int .u32 (a : Int), .int .u32 (b : Int)]) (.int .i64 1)).run Tryz.prog W = .ok (.int .u32 (b : Int)) W := fun W => by kernel_rfl
  go_enter Tryz.func116, Tryz.ntmps116
  go_upto_region 2 with (go_at_call 117; refine HLD.out.mono ?_; rintro e w1 ⟨rfl, X1, h1⟩; have H1 := Lib.hid h1; clear h1)
  clear c1 HLD
  have x0 : w1.cell? ⟨XB, 0, none⟩ = some (Pw B) := cell_row (H1.out.blk _ HXB.out) 0
  have e0 : w1.cell? ⟨B, 0, none⟩ = some (.int .u32 (a : Int)) := cell_row (H1.out.blk _ HB0.out) 0
  have e1 : w1.cell? ⟨B, 1, none⟩ = some (.int .u32 (b : Int)) := cell_row (H1.out.blk _ HB0.out) 1
  go_wp2_with fail
  refine wp_loop_rounds 3 ?_
  rw [rounds_succ]
  refine wp_seq ?_
  go_upto_region 5 with (fail)
  refine wp_region_held_drew (S := fun w' => w'.cell? ⟨XB, 0, none⟩ = some (Pw B)) (by kernel_rfl) ?_ (fun hHeld => ?_)
  · exact cell_row ((H1.out.new (Below.refl _ _).drew).blk _ HXB.out) 0
  refine tA 0 ⟨some 22, .load 80 (.tmp 1), 80, "pairs.go:83", #[], none⟩ ?vram1 ?rram1
  (try simp only [Act.put, tC, tD, tE])
  refine tA 1 ⟨some 23, .move (.tmp 6), 3, "pairs.go:83", #[], none⟩ ?vram2 ?rram2
  (try simp only [Act.put, tC, tD, tE])
  refine tA 2 ⟨some 24, .move (.tmp 7), 24, "pairs.go:83", #[], none⟩ ?vram3 ?rram3
  (try simp only [Act.put, tC, tD, tE])
  refine tA 3 ⟨some 25, .move (.tmp 5), 22, "pairs.go:83", #[], none⟩ ?vram4 ?rram4
  (try simp only [Act.put, tC, tD, tE])
  refine tA 5 ⟨some 27, .nilCheck (.tmp 22), 0, "pairs.go:83", #[⟨0, .data⟩], none⟩ ?vram5 ?rram5
  (try simp only [Act.put, tC, tD, tE])
  refine tA 6 ⟨some 28, .fieldAddr 76 (.tmp 27) 1, 0, "pairs.go:83", #[⟨5, .data⟩], none⟩ ?vram6 ?rram6
  (try simp only [Act.put, tC, tD, tE])
  refine wpAnyH_ready (rs := [4]) (by kernel_rfl) (by simp) ?_
  refine AllReadyH.cons (o := ⟨some 26, .call ⟨.value (.func 8), #[.tmp 24, .tmp 25], #[24, 22]⟩, 27, "pairs.go:83", #[⟨2, .data⟩, ⟨3, .data⟩], none⟩) rfl (fun Kq hKq => ?_) AllReadyH.nil
  go_simp
  (refine (HPA.out _).mono ?_; rintro e w1a ⟨rfl, hb2⟩; have H2 := Lib.hid ((H1.out.new (Below.refl _ _).drew).new hb2); clear hb2)
  refine hKq.out _ _ ?_ (fun hHeld => ?_)
  · exact cell_row (H2.out.blk _ HXB.out) 0
  clear hKq Kq
  (try simp only [Act.put, tC, tD, tE])
  refine tA 7 ⟨some 29, .indexAddr 72 (.tmp 28) (.tmp 23), 0, "pairs.go:83", #[⟨6, .data⟩, ⟨1, .data⟩, ⟨0, .phase⟩, ⟨1, .phase⟩, ⟨2, .phase⟩, ⟨3, .phase⟩, ⟨4, .phase⟩], none⟩ ?vram7 ?rram7
  (try simp only [Act.put, tC, tD, tE])
  refine wpAnyH_ready (rs := [8]) (by kernel_rfl) (by simp) ?_
  refine AllReadyH.cons (o := ⟨none, .store 27 (.tmp 29) (.tmp 26), 0, "pairs.go:83", #[⟨7, .data⟩, ⟨4, .data⟩, ⟨4, .chain⟩, ⟨0, .phase⟩, ⟨1, .phase⟩, ⟨2, .phase⟩, ⟨3, .phase⟩, ⟨4, .phase⟩], none⟩) rfl (fun Kq hKq => ?_) AllReadyH.nil
  (have y1 : w1a.cell? ⟨B, 2, none⟩ = some (.int .i64 p1) := cell_row (H2.out.blk _ HB0.out) 2; have y2 : w1a.cell? ⟨B, 3, none⟩ = some (.int .i64 q1) := cell_row (H2.out.blk _ HB0.out) 3; have f1 : w1a.frozen? ⟨B, 2, none⟩ = false := froz_row (H2.out.blk _ HB0.out) 2; have f2 : w1a.frozen? ⟨B, 3, none⟩ = false := froz_row (H2.out.blk _ HB0.out) 3; go_simp; have h3 := (H2.out.put _ HB0.out 2 (.int .i64 (bb : Int)) rfl).put _ (List.getElem?_set_self HKL.out) 3 (.int .i64 (ka : Int)) rfl; rw [List.set_set] at h3; have H3 := Lib.hid h3; clear y1 y2 f1 f2 h3; generalize (w1a.setCell ⟨B, 2, none⟩ (.int .i64 (bb : Int))).setCell ⟨B, 3, none⟩ (.int .i64 (ka : Int)) = w1b at *)
  refine hKq.out _ _ ?_ (fun hHeld => ?_)
  · exact cell_row (H3.out.blk _ (set_at2 HXB.out HNE.out)) 0
  clear hKq Kq
  (try simp only [Act.put, tC, tD, tE])
  refine wpAnyH_done (by kernel_rfl) ?_ _
  clear hHeld x0 e0 e1
  go_wp2_with fail
  (try simp only [Exit.inBlock, Exit.then])
  rw [rounds_succ]
  refine wp_seq ?_
  go_upto_region 5 with (fail)
  refine wp_region_held_drew (S := fun w' => w'.cell? ⟨XB, 0, none⟩ = some (Pw B)) (by kernel_rfl) ?_ (fun hHeld => ?_)
  · exact cell_row ((H3.out.new (Below.refl _ _).drew).blk _ (set_at2 HXB.out HNE.out)) 0
  refine tA 0 ⟨some 22, .load 80 (.tmp 1), 80, "pairs.go:83", #[], none⟩ ?vrbm1 ?rrbm1
  (try simp only [Act.put, tC, tD, tE])
  refine tA 1 ⟨some 23, .move (.tmp 6), 3, "pairs.go:83", #[], none⟩ ?vrbm2 ?rrbm2
  (try simp only [Act.put, tC, tD, tE])
  refine tA 2 ⟨some 24, .move (.tmp 7), 24, "pairs.go:83", #[], none⟩ ?vrbm3 ?rrbm3
  (try simp only [Act.put, tC, tD, tE])
  refine tA 3 ⟨some 25, .move (.tmp 5), 22, "pairs.go:83", #[], none⟩ ?vrbm4 ?rrbm4
  (try simp only [Act.put, tC, tD, tE])
  refine tA 5 ⟨some 27, .nilCheck (.tmp 22), 0, "pairs.go:83", #[⟨0, .data⟩], none⟩ ?vrbm5 ?rrbm5
  (try simp only [Act.put, tC, tD, tE])
  refine tA 6 ⟨some 28, .fieldAddr 76 (.tmp 27) 1, 0, "pairs.go:83", #[⟨5, .data⟩], none⟩ ?vrbm6 ?rrbm6
  (try simp only [Act.put, tC, tD, tE])
  refine wpAnyH_ready (rs := [4]) (by kernel_rfl) (by simp) ?_
  refine AllReadyH.cons (o := ⟨some 26, .call ⟨.value (.func 8), #[.tmp 24, .tmp 25], #[24, 22]⟩, 27, "pairs.go:83", #[⟨2, .data⟩, ⟨3, .data⟩], none⟩) rfl (fun Kq hKq => ?_) AllReadyH.nil
  go_simp
  (refine (HPB.out _).mono ?_; rintro e w1ba ⟨rfl, hb4⟩; have H4 := Lib.hid ((H3.out.new (Below.refl _ _).drew).new hb4); clear hb4)
  refine hKq.out _ _ ?_ (fun hHeld => ?_)
  · exact cell_row (H4.out.blk _ (set_at2 HXB.out HNE.out)) 0
  clear hKq Kq
  (try simp only [Act.put, tC, tD, tE])
  refine tA 7 ⟨some 29, .indexAddr 72 (.tmp 28) (.tmp 23), 0, "pairs.go:83", #[⟨6, .data⟩, ⟨1, .data⟩, ⟨0, .phase⟩, ⟨1, .phase⟩, ⟨2, .phase⟩, ⟨3, .phase⟩, ⟨4, .phase⟩], none⟩ ?vrbm7 ?rrbm7
  (try simp only [Act.put, tC, tD, tE])
  refine wpAnyH_ready (rs := [8]) (by kernel_rfl) (by simp) ?_
  refine AllReadyH.cons (o := ⟨none, .store 27 (.tmp 29) (.tmp 26), 0, "pairs.go:83", #[⟨7, .data⟩, ⟨4, .data⟩, ⟨4, .chain⟩, ⟨0, .phase⟩, ⟨1, .phase⟩, ⟨2, .phase⟩, ⟨3, .phase⟩, ⟨4, .phase⟩], none⟩) rfl (fun Kq hKq => ?_) AllReadyH.nil
  (have y1 : w1ba.cell? ⟨B, 4, none⟩ = some (.int .i64 p2) := cell_row (H4.out.blk _ (List.getElem?_set_self HKL.out)) 4; have y2 : w1ba.cell? ⟨B, 5, none⟩ = some (.int .i64 q2) := cell_row (H4.out.blk _ (List.getElem?_set_self HKL.out)) 5; have f1 : w1ba.frozen? ⟨B, 4, none⟩ = false := froz_row (H4.out.blk _ (List.getElem?_set_self HKL.out)) 4; have f2 : w1ba.frozen? ⟨B, 5, none⟩ = false := froz_row (H4.out.blk _ (List.getElem?_set_self HKL.out)) 5; go_simp; have h5 := (H4.out.put _ (List.getElem?_set_self HKL.out) 4 (.int .i64 (bb : Int)) rfl).put _ (List.getElem?_set_self (by rw [List.length_set]; exact HKL.out)) 5 (.int .i64 (kb : Int)) rfl; rw [List.set_set, List.set_set] at h5; have H5 := Lib.hid h5; clear y1 y2 f1 f2 h5; generalize (w1ba.setCell ⟨B, 4, none⟩ (.int .i64 (bb : Int))).setCell ⟨B, 5, none⟩ (.int .i64 (kb : Int)) = w1bb at *)
  refine hKq.out _ _ ?_ (fun hHeld => ?_)
  · exact cell_row (H5.out.blk _ (set_at2 HXB.out HNE.out)) 0
  clear hKq Kq
  (try simp only [Act.put, tC, tD, tE])
  refine wpAnyH_done (by kernel_rfl) ?_ _
  clear hHeld
  go_wp2_with fail
  (try simp only [Exit.inBlock, Exit.then])
  rw [rounds_succ]
  refine wp_seq ?_
  go_upto_region 7 with (fail)
  have x0 : w1bb.cell? ⟨XB, 0, none⟩ = some (Pw B) := cell_row (H5.out.blk _ (set_at2 HXB.out HNE.out)) 0
  have e2 : w1bb.cell? ⟨B, 2, none⟩ = some (.int .i64 (bb : Int)) := cell_row (H5.out.blk _ (List.getElem?_set_self HKL.out)) 2
  have e3 : w1bb.cell? ⟨B, 3, none⟩ = some (.int .i64 (ka : Int)) := cell_row (H5.out.blk _ (List.getElem?_set_self HKL.out)) 3
  have e4 : w1bb.cell? ⟨B, 4, none⟩ = some (.int .i64 (bb : Int)) := cell_row (H5.out.blk _ (List.getElem?_set_self HKL.out)) 4
  have e5 : w1bb.cell? ⟨B, 5, none⟩ = some (.int .i64 (kb : Int)) := cell_row (H5.out.blk _ (List.getElem?_set_self HKL.out)) 5
  go_upto_region 8 with (go_at_call 118; refine (HORD.out _).mono ?_; rintro e w6 ⟨rfl, hb6⟩; have H6 := Lib.hid (H5.out.new hb6); clear hb6)
  have h7 := H6.out.push (.cells #[.int .i64 (bb : Int), .int .i64 (m1 : Int), .int .i64 (bb : Int), .int .i64 (m2 : Int)] 72)
  obtain ⟨OR, hOR⟩ : ∃ OR, OR = w6.heap.size := ⟨_, rfl⟩
  rw [← hOR] at h7 ⊢
  have H7 := Lib.hid h7
  clear h7 hOR x0 e2 e3 e4 e5 H6
  generalize w6.alloc (.cells #[.int .i64 (bb : Int), .int .i64 (m1 : Int), .int .i64 (bb : Int), .int .i64 (m2 : Int)] 72) = w7 at *
  refine wp_region_held_drew (S := fun w' => w'.cell? ⟨XB, 0, none⟩ = some (Pw B) ∧ w'.cell? ⟨TB, 0, none⟩ = some (.int .i64 (t : Int)) ∧ w'.cell? ⟨OR, 0, none⟩ = some (.int .i64 (bb : Int)) ∧ w'.cell? ⟨OR, 1, none⟩ = some (.int .i64 (m1 : Int)) ∧ w'.cell? ⟨OR, 2, none⟩ = some (.int .i64 (bb : Int)) ∧ w'.cell? ⟨OR, 3, none⟩ = some (.int .i64 (m2 : Int))) (by kernel_rfl) ?_ (fun hHeld => ?_)
  · exact ⟨cell_row ((H7.out.new (Below.refl _ _).drew).blk _ (app1 (set_at2 HXB.out HNE.out))) 0, cell_row ((H7.out.new (Below.refl _ _).drew).blk _ (app1 (set_at2 HTB.out HNE2.out))) 0, cell_row ((H7.out.new (Below.refl _ _).drew).blk _ (at_end _ _)) 0, cell_row ((H7.out.new (Below.refl _ _).drew).blk _ (at_end _ _)) 1, cell_row ((H7.out.new (Below.refl _ _).drew).blk _ (at_end _ _)) 2, cell_row ((H7.out.new (Below.refl _ _).drew).blk _ (at_end _ _)) 3⟩
  refine tA 0 ⟨some 36, .load 80 (.tmp 1), 80, "pairs.go:86", #[], none⟩ ?vrcm1 ?rrcm1
  (try simp only [Act.put, tC, tD, tE])
  refine tA 1 ⟨some 37, .load 3 (.tmp 2), 3, "pairs.go:86", #[], none⟩ ?vrcm2 ?rrcm2
  (try simp only [Act.put, tC, tD, tE])
  refine tA 2 ⟨some 38, .indexAddr 72 (.tmp 8) (.const (.int .i64 0)), 0, "pairs.go:86", #[], none⟩ ?vrcm3 ?rrcm3
  (try simp only [Act.put, tC, tD, tE])
  refine tA 3 ⟨some 39, .load 27 (.tmp 38), 27, "pairs.go:86", #[⟨2, .data⟩], none⟩ ?vrcm4 ?rrcm4
  (try simp only [Act.put, tC, tD, tE])
  refine tA 5 ⟨some 41, .load 80 (.tmp 1), 80, "pairs.go:86", #[], none⟩ ?vrcm5 ?rrcm5
  (try simp only [Act.put, tC, tD, tE])
  refine tA 6 ⟨some 42, .load 3 (.tmp 2), 3, "pairs.go:86", #[], none⟩ ?vrcm6 ?rrcm6
  (try simp only [Act.put, tC, tD, tE])
  refine tA 7 ⟨some 43, .move (.tmp 5), 22, "pairs.go:86", #[], none⟩ ?vrcm7 ?rrcm7
  (try simp only [Act.put, tC, tD, tE])
  refine tA 8 ⟨some 44, .load 72 (.tmp 8), 72, "pairs.go:86", #[], none⟩ ?vrcm8 ?rrcm8
  (try simp only [Act.put, tC, tD, tE])
  refine tA 10 ⟨some 46, .load 3 (.tmp 2), 3, "pairs.go:86", #[], none⟩ ?vrcm9 ?rrcm9
  (try simp only [Act.put, tC, tD, tE])
  refine tA 11 ⟨some 47, .indexAddr 72 (.tmp 8) (.const (.int .i64 1)), 0, "pairs.go:86", #[], none⟩ ?vrcm10 ?rrcm10
  (try simp only [Act.put, tC, tD, tE])
  refine tA 12 ⟨some 48, .load 27 (.tmp 47), 27, "pairs.go:86", #[⟨11, .data⟩], none⟩ ?vrcm11 ?rrcm11
  (try simp only [Act.put, tC, tD, tE])
  refine wpAnyH_ready (rs := [4]) (by kernel_rfl) (by simp) ?_
  refine AllReadyH.cons (o := ⟨some 40, .call ⟨.value (.func 119), #[.tmp 37, .tmp 39], #[3, 27]⟩, 167, "pairs.go:86", #[⟨1, .data⟩, ⟨3, .data⟩], none⟩) rfl (fun Kq hKq => ?_) AllReadyH.nil
  go_simp
  (refine (take_new (H7.out.new (Below.refl _ _).drew) HUV.out.1 HUV.out.2.2.2.1 HT.out (key := loK a b x) (tw := x) (congrArg Nat.cast HBB.out) (congrArg Nat.cast HM1.out)).mono ?_; rintro e w8 ⟨V1, U1, rfl, _, h8⟩; have H8 := Lib.hid h8; clear h8)
  refine hKq.out _ _ ?_ (fun hHeld => ?_)
  · exact ⟨cell_row (H8.out.blk _ (app1 (app1 (set_at2 HXB.out HNE.out)))) 0, cell_row (H8.out.blk _ (app1 (app1 (set_at2 HTB.out HNE2.out)))) 0, cell_row (H8.out.blk _ (app1 (at_end _ _))) 0, cell_row (H8.out.blk _ (app1 (at_end _ _))) 1, cell_row (H8.out.blk _ (app1 (at_end _ _))) 2, cell_row (H8.out.blk _ (app1 (at_end _ _))) 3⟩
  clear hKq Kq
  (try simp only [Act.put, tC, tD, tE])
  refine wpAnyH_ready (rs := [9]) (by kernel_rfl) (by simp) ?_
  refine AllReadyH.cons (o := ⟨some 45, .call ⟨.value (.func 120), #[.tmp 41, .tmp 42, .tmp 43, .tmp 44], #[80, 3, 22, 72]⟩, 167, "pairs.go:86", #[⟨5, .data⟩, ⟨6, .data⟩, ⟨7, .data⟩, ⟨8, .data⟩, ⟨4, .chain⟩], none⟩) rfl (fun Kq hKq => ?_) AllReadyH.nil
  go_simp
  (refine (ask_new H8.out B t x (bb : Int) (m1 : Int) (bb : Int) (m2 : Int)).mono ?_; rintro e w9 ⟨rfl, h9⟩; have H9 := Lib.hid h9; clear h9)
  refine hKq.out _ _ ?_ (fun hHeld => ?_)
  · exact ⟨cell_row (H9.out.blk _ (app2 (app1 (set_at2 HXB.out HNE.out)))) 0, cell_row (H9.out.blk _ (app2 (app1 (set_at2 HTB.out HNE2.out)))) 0, cell_row (H9.out.blk _ (app2 (at_end _ _))) 0, cell_row (H9.out.blk _ (app2 (at_end _ _))) 1, cell_row (H9.out.blk _ (app2 (at_end _ _))) 2, cell_row (H9.out.blk _ (app2 (at_end _ _))) 3⟩
  clear hKq Kq
  (try simp only [Act.put, tC, tD, tE])
  refine wpAnyH_ready (rs := [13]) (by kernel_rfl) (by simp) ?_
  refine AllReadyH.cons (o := ⟨some 49, .call ⟨.value (.func 119), #[.tmp 46, .tmp 48], #[3, 27]⟩, 167, "pairs.go:86", #[⟨10, .data⟩, ⟨12, .data⟩, ⟨9, .chain⟩], none⟩) rfl (fun Kq hKq => ?_) AllReadyH.nil
  go_simp
  (refine (take_new H9.out HUV.out.2.1 (by rw [List.length_set]; exact HUV.out.2.2.2.2) HT.out (key := hiK a b x) (tw := x) (congrArg Nat.cast HBB.out) (congrArg Nat.cast HM2.out)).mono ?_; rintro e w10 ⟨V2, U2, rfl, _, h10⟩; have H10 := Lib.hid h10; clear h10)
  refine hKq.out _ _ ?_ (fun hHeld => ?_)
  · exact ⟨cell_row (H10.out.blk _ (app3 (app1 (set_at2 HXB.out HNE.out)))) 0, cell_row (H10.out.blk _ (app3 (app1 (set_at2 HTB.out HNE2.out)))) 0, cell_row (H10.out.blk _ (app3 (at_end _ _))) 0, cell_row (H10.out.blk _ (app3 (at_end _ _))) 1, cell_row (H10.out.blk _ (app3 (at_end _ _))) 2, cell_row (H10.out.blk _ (app3 (at_end _ _))) 3⟩
  clear hKq Kq
  (try simp only [Act.put, tC, tD, tE])
  refine wpAnyH_ready (rs := [14]) (by kernel_rfl) (by simp) ?_
  refine AllReadyH.cons (o := ⟨some 50, .buildSlice 74 3 #[(0, .tmp 40), (1, .tmp 45), (2, .tmp 49)], 74, "pairs.go:86", #[⟨4, .data⟩, ⟨9, .data⟩, ⟨13, .data⟩], none⟩) rfl (fun Kq hKq => ?_) AllReadyH.nil
  (go_simp; have h11 := H10.out.push (.cells #[takeF V1, askF (w8.heap.size + 2) (w8.heap.size + 3) w8.heap.size (w8.heap.size + 1), takeF V2] 167); have H11 := Lib.hid h11; clear h11)
  refine hKq.out _ _ ?_ (fun hHeld => ?_)
  · exact ⟨cell_row (H11.out.blk _ (app4 (app1 (set_at2 HXB.out HNE.out)))) 0, cell_row (H11.out.blk _ (app4 (app1 (set_at2 HTB.out HNE2.out)))) 0, cell_row (H11.out.blk _ (app4 (at_end _ _))) 0, cell_row (H11.out.blk _ (app4 (at_end _ _))) 1, cell_row (H11.out.blk _ (app4 (at_end _ _))) 2, cell_row (H11.out.blk _ (app4 (at_end _ _))) 3⟩
  clear hKq Kq
  (try simp only [Act.put, tC, tD, tE])
  refine tA 15 ⟨some 51, .nilCheck (.tmp 36), 0, "pairs.go:86", #[⟨0, .data⟩, ⟨0, .phase⟩, ⟨1, .phase⟩, ⟨2, .phase⟩, ⟨3, .phase⟩, ⟨4, .phase⟩, ⟨5, .phase⟩, ⟨6, .phase⟩, ⟨7, .phase⟩, ⟨8, .phase⟩, ⟨9, .phase⟩, ⟨10, .phase⟩, ⟨11, .phase⟩, ⟨12, .phase⟩, ⟨13, .phase⟩, ⟨14, .phase⟩], none⟩ ?vrcm12 ?rrcm12
  (try simp only [Act.put, tC, tD, tE])
  refine tA 16 ⟨some 52, .fieldAddr 76 (.tmp 51) 2, 0, "pairs.go:86", #[⟨15, .data⟩, ⟨0, .phase⟩, ⟨1, .phase⟩, ⟨2, .phase⟩, ⟨3, .phase⟩, ⟨4, .phase⟩, ⟨5, .phase⟩, ⟨6, .phase⟩, ⟨7, .phase⟩, ⟨8, .phase⟩, ⟨9, .phase⟩, ⟨10, .phase⟩, ⟨11, .phase⟩, ⟨12, .phase⟩, ⟨13, .phase⟩, ⟨14, .phase⟩], none⟩ ?vrcm13 ?rrcm13
  (try simp only [Act.put, tC, tD, tE])
  refine wpAnyH_ready (rs := [17]) (by kernel_rfl) (by simp) ?_
  refine AllReadyH.cons (o := ⟨none, .store 74 (.tmp 52) (.tmp 50), 0, "pairs.go:86", #[⟨16, .data⟩, ⟨14, .data⟩, ⟨13, .chain⟩, ⟨0, .phase⟩, ⟨1, .phase⟩, ⟨2, .phase⟩, ⟨3, .phase⟩, ⟨4, .phase⟩, ⟨5, .phase⟩, ⟨6, .phase⟩, ⟨7, .phase⟩, ⟨8, .phase⟩, ⟨9, .phase⟩, ⟨10, .phase⟩, ⟨11, .phase⟩, ⟨12, .phase⟩, ⟨13, .phase⟩, ⟨14, .phase⟩], none⟩) rfl (fun Kq hKq => ?_) AllReadyH.nil
  (have y1 : (w10.alloc (.cells #[takeF V1, askF (w8.heap.size + 2) (w8.heap.size + 3) w8.heap.size (w8.heap.size + 1), takeF V2] 167)).cell? ⟨B, 6, none⟩ = some left := cell_row (H11.out.blk _ (app4 (app1 (List.getElem?_set_self HKL.out)))) 6; have f1 : (w10.alloc (.cells #[takeF V1, askF (w8.heap.size + 2) (w8.heap.size + 3) w8.heap.size (w8.heap.size + 1), takeF V2] 167)).frozen? ⟨B, 6, none⟩ = false := froz_row (H11.out.blk _ (app4 (app1 (List.getElem?_set_self HKL.out)))) 6; go_simp; have h12 := H11.out.put _ (app4 (app1 (List.getElem?_set_self HKL.out))) 6 (.slice (some ⟨w10.heap.size, 0, none⟩) 3 3) rfl; have H12 := Lib.hid h12; clear y1 f1 h12; generalize (w10.alloc (.cells #[takeF V1, askF (w8.heap.size + 2) (w8.heap.size + 3) w8.heap.size (w8.heap.size + 1), takeF V2] 167)).setCell ⟨B, 6, none⟩ (.slice (some ⟨w10.heap.size, 0, none⟩) 3 3) = w12 at *)
  refine hKq.out _ _ ?_ (fun hHeld => ?_)
  · exact ⟨cell_row (H12.out.blk _ (set_at2 (app4 (app1 (set_at2 HXB.out HNE.out))) HNE.out)) 0, cell_row (H12.out.blk _ (set_at2 (app4 (app1 (set_at2 HTB.out HNE2.out))) HNE2.out)) 0, cell_row (H12.out.blk _ (set_at2 (app4 (at_end _ _)) (by have := HKL.out; rw [List.length_set]; omega))) 0, cell_row (H12.out.blk _ (set_at2 (app4 (at_end _ _)) (by have := HKL.out; rw [List.length_set]; omega))) 1, cell_row (H12.out.blk _ (set_at2 (app4 (at_end _ _)) (by have := HKL.out; rw [List.length_set]; omega))) 2, cell_row (H12.out.blk _ (set_at2 (app4 (at_end _ _)) (by have := HKL.out; rw [List.length_set]; omega))) 3⟩
  clear hKq Kq
  (try simp only [Act.put, tC, tD, tE])
  refine wpAnyH_done (by kernel_rfl) ?_ _
  clear hHeld
  go_wp2_with fail
  go_ret
  have h12 := H12.out
  simp only [List.append_assoc, List.cons_append, List.nil_append, askL] at h12
  have h13 := h12.keep (by rw [List.length_set]; exact HKL.out)
  refine ⟨rfl, X1, U1, U2, OR, V1, w8.heap.size, w8.heap.size + 1, w8.heap.size + 2, w8.heap.size + 3, V2, w10.heap.size, ?_⟩
  unfold twoL
  rw [← HBB.out, ← HKA.out, ← HKB.out, ← HM1.out, ← HM2.out]
  exact h13
end
end Go.Proofs.YtokplfkhpjcfcaaGreat.S16
set_option linter.unusedVariables false
set_option linter.unusedSimpArgs false
namespace Go.Proofs.YtokplfkhpjcfcaaGreat.S16
set_option maxRecDepth 100000
set_option maxHeartbeats 16000000
open Go.Proofs.YtokplfkhpjcfcaaGreat Go.Proofs.YtokplfkhpjcfcaaGreat.S11 Go.Proofs.YtokplfkhpjcfcaaGreat.S12 Go.Proofs.YtokplfkhpjcfcaaGreat.S13 Go.Proofs.YtokplfkhpjcfcaaGreat.S14 Go.Proofs.YtokplfkhpjcfcaaGreat.S15
open Go.RowKit
section
variable {w0 w w' : World} {base WB : Nat} {M : Sd} {r : List Part} {j u v U : Nat} {l l' : Rows} {X : Wm}
theorem over_any {B a b n c : Nat} {p1 q1 p2 q2 : Int} {P : Option Addr} (k : Nat) (h : Wq w0 w base WB M r j l X) (hb : l[k]? = some (B, .cells (pairC a b p1 q1 p2 q2 (.slice P n c)) 76 (0, 0))) : Calls Tryz.prog 25 #[Pw B] w fun e w' => e = .returned (.bool (decide (n = 0))) ∧ Below w.heap.size w w' := by
  have y0 : w.cell? ⟨B, 6, none⟩ = some (.slice P n c) := cell_row (h.blk k hb) 6
  have d1 : ((n : Int) == 0) = decide (n = 0) := by by_cases e : n = 0 <;> simp [e]
  have d2 : decide ((n : Int) = 0) = decide (n = 0) := by by_cases e : n = 0 <;> simp [e]
  generalize decide (n = 0) = d at *
  clear h hb
  go_enter Tryz.func25, Tryz.ntmps25
  go_wp2_with fail
  go_ret
  exact ⟨by simp [d1, d2], Below.refl _ _⟩
theorem over_nil (w : World) : Calls Tryz.prog 25 #[.pointer none] w fun e w' => e = .returned (.bool true) ∧ w = w' := by
  go_enter Tryz.func25, Tryz.ntmps25
  go_wp2_with fail
  go_ret
  exact ⟨rfl, rfl⟩
end
structure KOk (K : Lk) : Prop where
  ln : K.ln ≤ 6
  t : K.t < 64
  a : K.a < 4294967296
  st : K.st < 18446744073709551616
  sp : 0 ≤ K.sp ∧ K.sp ≤ 16
theorem KOk.lok {M : Sd} {K : Lk} (h : KOk K) (ms : 0 ≤ M.sp ∧ M.sp ≤ 16) (hn : M.n ≤ 1000000000) (hp : M.pn ≤ 1000000000) : LkOk M K := ⟨h.t, h.a, h.st, h.sp, ms, hn, hp⟩
theorem KOk.step {M : Sd} {K : Lk} (h : KOk K) (ms : 0 ≤ M.sp ∧ M.sp ≤ 16) (hl : ∀ a, S2.look M.L a < 18446744073709551616) : KOk (stepK M K) := by
  obtain ⟨k1, k2, k3, k4, k5⟩ := stepK_ok (M := M) (K := K) h.st h.sp ms (hl _)
  exact ⟨step_le h.ln, by rw [k1]; exact h.t, by rw [k2]; exact h.a, k3, k4, k5⟩
theorem kok_1 {t a : Nat} (ht : t < 64) (ha : a < 4294967296) : KOk (lk1 t a) := ⟨by show 1 ≤ 6; omega, ht, ha, by show 0 < _; omega, by show (0 : Int) ≤ 0; omega, by show (0 : Int) ≤ 16; omega⟩
theorem kok_0 : KOk lk0 := ⟨by show 0 ≤ 6; omega, by show 0 < 64; omega, by show 0 < _; omega, by show 0 < _; omega, by show (0 : Int) ≤ 0; omega, by show (0 : Int) ≤ 16; omega⟩
structure PrOk (P : Pr) : Prop where
  ln : P.ln ≤ 5
  t : P.t < 64
  a : P.a < 4294967296
  b : P.b < 4294967296
  tw : P.tw < 18446744073709551616
  k1 : KOk P.K1
  k2 : KOk P.K2
  f : FOk P.F
theorem ok_pr {t a b : Nat} (ht : t < 64) (ha : a < 4294967296) (hb : b < 4294967296) : PrOk (pr0 t a b) := ⟨by show 1 ≤ 5; omega, ht, ha, hb, by show 0 < _; omega, kok_0, kok_0, fok_new (by omega)⟩
theorem PrOk.step {M : Sd} {P : Pr} (h : PrOk P) (ms : 0 ≤ M.sp ∧ M.sp ≤ 16) (hl : ∀ a, S2.look M.L a < 18446744073709551616) (hk : ∀ i, M.lk i ≤ 64) : PrOk (prE M P) := by
  obtain ⟨ln, t, a, b, tw, K1, K2, F⟩ := P
  have hln := h.ln
  rcases (show ln = 0 ∨ ln = 1 ∨ ln = 2 ∨ ln = 3 ∨ ln = 4 ∨ ln = 5 from by have : ln ≤ 5 := hln; omega) with rfl | rfl | rfl | rfl | rfl | rfl
  · exact h
  · have h1 := lok_in (loK a b (S2.look M.L 0)) (S2.look M.L 0)
    have h2 := lok_in (hiK a b (S2.look M.L 0)) (S2.look M.L 0)
    have h1' : lokN (loK a b (S2.look M.L 0)) (S2.look M.L 0) < 4294967296 := by omega
    have h2' : lokN (hiK a b (S2.look M.L 0)) (S2.look M.L 0) < 4294967296 := by omega
    exact ⟨by show 2 ≤ 5; omega, h.t, h.a, h.b, hl _, kok_1 h.t h1', kok_1 h.t h2', h.f⟩
  · exact ⟨by show (if (stepK M K1).ln = 0 then 3 else 2) ≤ 5; split <;> omega, h.t, h.a, h.b, h.tw, h.k1.step ms hl, h.k2, h.f⟩
  · by_cases hx : S2.look M.L 0 = tw
    · have e : prE M ⟨3, t, a, b, tw, K1, K2, F⟩ = ⟨if bktN a tw = bktN b tw then 0 else 4, t, a, b, tw, K1, K2, F⟩ := if_pos hx
      rw [e]
      exact ⟨by show (if bktN a tw = bktN b tw then 0 else 4) ≤ 5; split <;> omega, h.t, h.a, h.b, h.tw, h.k1, h.k2, h.f⟩
    · have e : prE M ⟨3, t, a, b, tw, K1, K2, F⟩ = ⟨5, t, a, b, tw, K1, K2, fr0 (lokN (loK a b tw) tw)⟩ := if_neg hx
      rw [e]
      have h1 := lok_in (loK a b tw) tw
      exact ⟨by show 5 ≤ 5; omega, h.t, h.a, h.b, h.tw, h.k1, h.k2, fok_new (by omega)⟩
  · exact ⟨by show (if (stepK M K2).ln = 0 then 0 else 4) ≤ 5; split <;> omega, h.t, h.a, h.b, h.tw, h.k1, h.k2.step ms hl, h.f⟩
  · exact ⟨by show (if (fstepK M F).ln = 0 then 1 else 5) ≤ 5; split <;> omega, h.t, h.a, h.b, h.tw, h.k1, h.k2, h.f.step hl hk⟩
def Shape (P : Pr) (B : Nat) (r : List Part) (u v : Nat) (l : Rows) : Prop :=
  match P.ln with
  | 1 => ∃ (LB XC TC i kl kx kt : Nat) (p1 q1 p2 q2 : Int) (row : Array Value), l[0]? = some (B, .cells (pairC P.a P.b p1 q1 p2 q2 (.slice (some ⟨LB, i, none⟩) 1 1)) 76 (0, 0)) ∧ l[kl]? = some (LB, .cells row 167 (0, 0)) ∧ row[i]? = some (lookF XC TC) ∧ l[kx]? = some (XC, .cells #[Pw B] 80 (0, 0)) ∧ l[kt]? = some (TC, .cells #[.int .i64 (P.t : Int)] 3 (0, 0)) ∧ 0 ≠ kl ∧ 0 ≠ kx ∧ 0 ≠ kt
  | 2 => ∃ OR V1 XC TC KB OB V2 LB U1 U2 : Nat, l = twoL B OR V1 XC TC KB OB V2 LB P.a P.b P.t P.tw U1 U2 0 3 ∧ r[u]? = some (lockP U1 P.K1) ∧ r[v]? = some (lockP U2 P.K2)
  | 3 => ∃ OR V1 XC TC KB OB V2 LB U1 U2 : Nat, l = twoL B OR V1 XC TC KB OB V2 LB P.a P.b P.t P.tw U1 U2 1 2 ∧ r[u]? = some (lockP U1 P.K1) ∧ r[v]? = some (lockP U2 P.K2)
  | 4 => ∃ OR V1 XC TC KB OB V2 LB U1 U2 : Nat, l = twoL B OR V1 XC TC KB OB V2 LB P.a P.b P.t P.tw U1 U2 2 1 ∧ r[u]? = some (lockP U1 P.K1) ∧ r[v]? = some (lockP U2 P.K2)
  | 5 => ∃ (V U XC TC LB : Nat) (p1 q1 p2 q2 : Int), l = [(B, .cells (pairC P.a P.b p1 q1 p2 q2 (.slice (some ⟨LB, 0, none⟩) 2 2)) 76 (0, 0)), (V, .cells #[Pw U] 270 (0, 0)), (XC, .cells #[Pw B] 80 (0, 0)), (TC, .cells #[.int .i64 (P.t : Int)] 3 (0, 0)), (LB, .cells #[leaveF V, lookF XC TC] 167 (0, 0))] ∧ r[u]? = some (freeP U P.F)
  | _ => ∃ (A : Option Addr) (c : Nat), l[0]? = some (B, .cells (pairC P.a P.b (bitsN P.tw : Int) (bktN P.a P.tw : Int) (bitsN P.tw : Int) (bktN P.b P.tw : Int) (.slice A 0 c)) 76 (0, 0))
structure PairAt (w0 w : World) (base WB : Nat) (M : Sd) (r : List Part) (j u v : Nat) (P : Pr) (B : Nat) (X : Wm) : Prop where
  ju : j ≠ u
  jv : j ≠ v
  uv : u ≠ v
  hu : u < r.length
  hv : v < r.length
  at' : ∃ l, Wq w0 w base WB M r j l X ∧ Shape P B r u v l
def PStep (w0 w' : World) (base WB : Nat) (M : Sd) (r : List Part) (j u v : Nat) (P : Pr) (B : Nat) : Prop := ∃ q1 q2 X', PairAt w0 w' base WB (prM M P) ((r.set u q1).set v q2) j u v (prE M P) B X'
section
variable {w0 w w' : World} {base WB : Nat} {M : Sd} {r : List Part} {j u v U B : Nat} {l l' : Rows} {X : Wm} {P : Pr}
theorem PairAt.new (h : PairAt w0 w base WB M r j u v P B X) (b : Below w.heap.size w w') : PairAt w0 w' base WB M r j u v P B X := by
  obtain ⟨l, hw, hs⟩ := h.at'
  exact ⟨h.ju, h.jv, h.uv, h.hu, h.hv, l, hw.new b, hs⟩
theorem PairAt.look (h : PairAt w0 w base WB M r j u v P B X) (a : Nat) : S2.look M.L a < 18446744073709551616 := by
  obtain ⟨l, hw, hs⟩ := h.at'
  exact hw.look a
theorem PairAt.lk (h : PairAt w0 w base WB M r j u v P B X) (i : Nat) : M.lk i ≤ 64 := by
  obtain ⟨l, hw, hs⟩ := h.at'
  exact pg_le hw.pg i
theorem set_get {r : List Part} {u : Nat} {p q : Part} (h : r[u]? = some p) : (r.set u q)[u]? = some q := List.getElem?_set_self (List.getElem?_eq_some_iff.1 h).1
theorem set_oth {r : List Part} {u v : Nat} {p q : Part} (h : r[v]? = some p) (huv : u ≠ v) : (r.set u q)[v]? = some p := (List.getElem?_set_ne huv).trans h
theorem PStep.one {P' : Pr} {q : Part} (hq : prE M P = P') (h : PairAt w0 w' base WB (prM M P) (r.set u q) j u v P' B X) (hv : v < r.length) : PStep w0 w' base WB M r j u v P B := by
  obtain ⟨q2, h2⟩ := same_at (r := r.set u q) (u := v) (by rw [List.length_set]; exact hv)
  exact ⟨q, q2, X, by rw [h2, hq]; exact h⟩
theorem PStep.none {P' : Pr} (hq : prE M P = P') (h : PairAt w0 w' base WB (prM M P) r j u v P' B X) : PStep w0 w' base WB M r j u v P B := by
  obtain ⟨q1, h1⟩ := same_at (r := r) (u := u) h.hu
  obtain ⟨q2, h2⟩ := same_at (r := r) (u := v) h.hv
  exact ⟨q1, q2, X, by rw [h1, h2, hq]; exact h⟩
theorem wq_cell (h : Wq w0 w base WB M r j l X) {a b n c : Nat} {p1 q1 p2 q2 : Int} {A : Option Addr} (hb : l[0]? = some (B, .cells (pairC a b p1 q1 p2 q2 (.slice A n c)) 76 (0, 0))) : w.cell? ⟨B, 6, none⟩ = some (.slice A n c) ∧ w.frozen? ⟨B, 6, none⟩ = false := ⟨cell_row (h.blk 0 hb) 6, froz_row (h.blk 0 hb) 6⟩
theorem PStep.two {P' : Pr} {q : Part} (hq : prE M P = P') (h : PairAt w0 w' base WB (prM M P) (r.set v q) j u v P' B X) (hu : u < r.length) (huv : u ≠ v) : PStep w0 w' base WB M r j u v P B := by
  obtain ⟨q1, h1⟩ := same_at (r := r) (u := u) hu
  exact ⟨q1, q, X, by rw [h1, hq]; exact h⟩
theorem pline_2 {t a b tw : Nat} {K1 K2 : Lk} {F : Fr} (h : PairAt w0 w base WB M r j u v ⟨2, t, a, b, tw, K1, K2, F⟩ B X) (ok : KOk K1) (ms : 0 ≤ M.sp ∧ M.sp ≤ 16) (hn : M.n ≤ 1000000000) (hp : M.pn ≤ 1000000000) :
    Calls Tryz.prog 66 #[.pointer (some ⟨B, 6, none⟩), Pw WB] w fun e w' => e = .returned (.tuple #[]) ∧ PStep w0 w' base WB M r j u v ⟨2, t, a, b, tw, K1, K2, F⟩ B := by
  obtain ⟨l, hw, OR, V1, XC, TC, KB, OB, V2, LB, U1, U2, rfl, hr1, hr2⟩ := h.at'
  have hc := wq_cell hw rfl
  have hw1 : Wq w0 (w.setCell ⟨B, 6, none⟩ (.slice (some ⟨LB, 1, none⟩) 2 2)) base WB M r j (twoL B OR V1 XC TC KB OB V2 LB a b t tw U1 U2 1 2) X := hw.put 0 rfl 6 (.slice (some ⟨LB, 1, none⟩) 2 2) rfl
  have hst := take_step hw1 h.ju hr1 2 (V := V1) rfl (ok.lok ms hn hp) ok.ln
  refine (todo_take (LB := LB) (i := 0) (n := 2) (c := 2) (V := V1) (Q := fun bo w' => bo = decide ((stepK M K1).ln = 0) ∧ ∃ X', Wq w0 w' base WB (stepM M K1) (r.set u (lockP U1 (stepK M K1))) j (twoL B OR V1 XC TC KB OB V2 LB a b t tw U1 U2 1 2) X') (by omega) (by omega) (by omega) hc.1 hc.2 (cell_row (hw1.blk 8 rfl) 0) (hst.mono ?_) ?_).mono ?_
  · rintro e w' ⟨rfl, X', h'⟩
    exact ⟨_, rfl, rfl, X', h'⟩
  · rintro w' ⟨_, X', h'⟩
    exact ⟨(wq_cell h' rfl).2, _, (wq_cell h' rfl).1⟩
  · rintro e w' ⟨rfl, ⟨hb, X', h'⟩ | ⟨w2, ⟨hb, X', h'⟩, rfl⟩⟩
    · have h0 : (stepK M K1).ln = 0 := of_decide_eq_true hb.symm
      have e : prE M ⟨2, t, a, b, tw, K1, K2, F⟩ = ⟨3, t, a, b, tw, stepK M K1, K2, F⟩ := by show (⟨if (stepK M K1).ln = 0 then 3 else 2, t, a, b, tw, stepK M K1, K2, F⟩ : Pr) = _; rw [if_pos h0]
      exact ⟨rfl, PStep.one (q := lockP U1 (stepK M K1)) e (X := X') ⟨h.ju, h.jv, h.uv, by rw [List.length_set]; exact h.hu, by rw [List.length_set]; exact h.hv, _, h', ⟨OR, V1, XC, TC, KB, OB, V2, LB, U1, U2, rfl, set_get hr1, set_oth hr2 h.uv⟩⟩ h.hv⟩
    · have h0 : ¬ (stepK M K1).ln = 0 := of_decide_eq_false hb.symm
      have e : prE M ⟨2, t, a, b, tw, K1, K2, F⟩ = ⟨2, t, a, b, tw, stepK M K1, K2, F⟩ := by show (⟨if (stepK M K1).ln = 0 then 3 else 2, t, a, b, tw, stepK M K1, K2, F⟩ : Pr) = _; rw [if_neg h0]
      have h2 : Wq w0 (w2.setCell ⟨B, 6, none⟩ (.slice (some ⟨LB, 0, none⟩) 3 3)) base WB (stepM M K1) (r.set u (lockP U1 (stepK M K1))) j (twoL B OR V1 XC TC KB OB V2 LB a b t tw U1 U2 0 3) X' := h'.put 0 rfl 6 (.slice (some ⟨LB, 0, none⟩) 3 3) rfl
      exact ⟨rfl, PStep.one (q := lockP U1 (stepK M K1)) e (X := X') ⟨h.ju, h.jv, h.uv, by rw [List.length_set]; exact h.hu, by rw [List.length_set]; exact h.hv, _, h2, ⟨OR, V1, XC, TC, KB, OB, V2, LB, U1, U2, rfl, set_get hr1, set_oth hr2 h.uv⟩⟩ h.hv⟩
theorem pline_4 {t a b tw : Nat} {K1 K2 : Lk} {F : Fr} (h : PairAt w0 w base WB M r j u v ⟨4, t, a, b, tw, K1, K2, F⟩ B X) (ok : KOk K2) (ms : 0 ≤ M.sp ∧ M.sp ≤ 16) (hn : M.n ≤ 1000000000) (hp : M.pn ≤ 1000000000) :
    Calls Tryz.prog 66 #[.pointer (some ⟨B, 6, none⟩), Pw WB] w fun e w' => e = .returned (.tuple #[]) ∧ PStep w0 w' base WB M r j u v ⟨4, t, a, b, tw, K1, K2, F⟩ B := by
  obtain ⟨l, hw, OR, V1, XC, TC, KB, OB, V2, LB, U1, U2, rfl, hr1, hr2⟩ := h.at'
  have hc := wq_cell hw rfl
  have hw1 : Wq w0 (w.setCell ⟨B, 6, none⟩ (.slice (some ⟨LB, 2, none⟩) 0 0)) base WB M r j (twoL B OR V1 XC TC KB OB V2 LB a b t tw U1 U2 2 0) X := hw.put 0 rfl 6 (.slice (some ⟨LB, 2, none⟩) 0 0) rfl
  have hst := take_step hw1 h.jv hr2 7 (V := V2) rfl (ok.lok ms hn hp) ok.ln
  refine (todo_take (LB := LB) (i := 2) (n := 0) (c := 0) (V := V2) (Q := fun bo w' => bo = decide ((stepK M K2).ln = 0) ∧ ∃ X', Wq w0 w' base WB (stepM M K2) (r.set v (lockP U2 (stepK M K2))) j (twoL B OR V1 XC TC KB OB V2 LB a b t tw U1 U2 2 0) X') (by omega) (by omega) (by omega) hc.1 hc.2 (cell_row (hw1.blk 8 rfl) 2) (hst.mono ?_) ?_).mono ?_
  · rintro e w' ⟨rfl, X', h'⟩
    exact ⟨_, rfl, rfl, X', h'⟩
  · rintro w' ⟨_, X', h'⟩
    exact ⟨(wq_cell h' rfl).2, _, (wq_cell h' rfl).1⟩
  · rintro e w' ⟨rfl, ⟨hb, X', h'⟩ | ⟨w2, ⟨hb, X', h'⟩, rfl⟩⟩
    · have h0 : (stepK M K2).ln = 0 := of_decide_eq_true hb.symm
      have e : prE M ⟨4, t, a, b, tw, K1, K2, F⟩ = ⟨0, t, a, b, tw, K1, stepK M K2, F⟩ := by show (⟨if (stepK M K2).ln = 0 then 0 else 4, t, a, b, tw, K1, stepK M K2, F⟩ : Pr) = _; rw [if_pos h0]
      exact ⟨rfl, PStep.two (q := lockP U2 (stepK M K2)) e (X := X') ⟨h.ju, h.jv, h.uv, by rw [List.length_set]; exact h.hu, by rw [List.length_set]; exact h.hv, _, h', ⟨_, _, rfl⟩⟩ h.hu h.uv⟩
    · have h0 : ¬ (stepK M K2).ln = 0 := of_decide_eq_false hb.symm
      have e : prE M ⟨4, t, a, b, tw, K1, K2, F⟩ = ⟨4, t, a, b, tw, K1, stepK M K2, F⟩ := by show (⟨if (stepK M K2).ln = 0 then 0 else 4, t, a, b, tw, K1, stepK M K2, F⟩ : Pr) = _; rw [if_neg h0]
      have h2 : Wq w0 (w2.setCell ⟨B, 6, none⟩ (.slice (some ⟨LB, 2, none⟩) 1 1)) base WB (stepM M K2) (r.set v (lockP U2 (stepK M K2))) j (twoL B OR V1 XC TC KB OB V2 LB a b t tw U1 U2 2 1) X' := h'.put 0 rfl 6 (.slice (some ⟨LB, 2, none⟩) 1 1) rfl
      exact ⟨rfl, PStep.two (q := lockP U2 (stepK M K2)) e (X := X') ⟨h.ju, h.jv, h.uv, by rw [List.length_set]; exact h.hu, by rw [List.length_set]; exact h.hv, _, h2, ⟨OR, V1, XC, TC, KB, OB, V2, LB, U1, U2, rfl, set_oth hr1 (Ne.symm h.uv), set_get hr2⟩⟩ h.hu h.uv⟩
end
end Go.Proofs.YtokplfkhpjcfcaaGreat.S16
