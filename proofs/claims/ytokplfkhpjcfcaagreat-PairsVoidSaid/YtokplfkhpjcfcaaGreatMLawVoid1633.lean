/- Texts of this seat, one behind the other. -/
import Derived.Test.YtokplfkhpjcfcaaGreatMLawVoid161
import Derived.Test.YtokplfkhpjcfcaaGreatMLawVoid1632
import Derived.LoopTactic
import Derived.Deep.LoopGhost
set_option linter.unusedVariables false
set_option linter.unusedSimpArgs false
set_option linter.unusedVariables false
set_option linter.unusedSimpArgs false
namespace Go.Proofs.YtokplfkhpjcfcaaGreat.S16
set_option maxRecDepth 100000
set_option maxHeartbeats 16000000
open Go.Proofs.YtokplfkhpjcfcaaGreat Go.Proofs.YtokplfkhpjcfcaaGreat.S11 Go.Proofs.YtokplfkhpjcfcaaGreat.S12 Go.Proofs.YtokplfkhpjcfcaaGreat.S13 Go.Proofs.YtokplfkhpjcfcaaGreat.S14 Go.Proofs.YtokplfkhpjcfcaaGreat.S15
open Go.RowKit
theorem layP : Lay 81 80 1 8 (.pointer none) := ⟨by kernel_rfl, info_of (by kernel_rfl), rfl, by omega, by omega⟩
theorem append_ptrs {w : World} {LB0 LB1 B BX : Nat} (c0 : w.cell? ⟨LB0, 0, none⟩ = some (.pointer none)) (c1 : w.cell? ⟨LB0, 1, none⟩ = some (Pw B)) (c2 : w.cell? ⟨LB1, 0, none⟩ = some (Pw BX)) (ty : TypeId) :
    ∃ (cc : Nat) (row : Array Value), row[0]? = some (.pointer none) ∧ row[1]? = some (Pw B) ∧ row[2]? = some (Pw BX) ∧
      (Builtin.append_ #[81, 81] ty #[.slice (some ⟨LB0, 0, none⟩) 2 2, .slice (some ⟨LB1, 0, none⟩) 1 1]).run Tryz.prog w = .ok (.slice (some ⟨w.heap.size, 0, none⟩) 3 cc) (w.drew.alloc (.cells row 80)) := by
  obtain ⟨i, hi, hz, hsz, hby⟩ := layP.info
  have r0 : Rd w (LB0 + 1) (some ⟨LB0, 0, none⟩) [.pointer none, Pw B] := fun _ => ⟨LB0, 0, rfl, by omega, fun j u e => by
    match j, e with
    | 0, e => simp at e; rw [← e]; exact c0
    | 1, e => simp at e; rw [← e]; exact c1⟩
  have r1 : Rd w (LB1 + 1) (some ⟨LB1, 0, none⟩) [Pw BX] := fun _ => ⟨LB1, 0, rfl, by omega, fun j u e => by
    match j, e with
    | 0, e => simp at e; rw [← e]; exact c2⟩
  have r0d : Rd w.drew (LB0 + 1) (some ⟨LB0, 0, none⟩) [.pointer none, Pw B] := r0
  have hold := (r0d.src layP (m := 2) rfl (by intro u hu; simp at hu; rcases hu with rfl | rfl <;> rfl) 2).cells
  have hs := r1.src layP (m := 1) rfl (by intro u hu; simp at hu; subst hu; rfl) 1
  have hold' : (Builtin.firstCells i.size 2 (.slice (some ⟨LB0, 0, none⟩) 2 2)).run Tryz.prog w.drew = .ok #[.pointer none, Pw B] w.drew := by rw [hsz]; exact hold
  have hs' : Src Tryz.prog i.size 81 (.slice (some ⟨LB1, 0, none⟩) 1 1) 1 [Pw BX] w := by rw [hsz]; exact hs
  have hrun := run_append_grow_src (P := Tryz.prog) w 81 81 ty 80 i (.pointer none) layP.und hi hz (some ⟨LB0, 0, none⟩) 2 2 [.pointer none, Pw B] hold' _ 1 [Pw BX] hs' (by omega) (by omega) (growslice_fits (by omega) (by rw [hby]; omega))
  exact ⟨_, _, by rw [Array.getElem?_append_left (by simp)]; rfl, by rw [Array.getElem?_append_left (by simp)]; rfl, by rw [Array.getElem?_append_left (by simp)]; rfl, hrun⟩
theorem wpList_append_ptrs {w : World} {LB0 LB1 B BX : Nat} (c0 : w.cell? ⟨LB0, 0, none⟩ = some (.pointer none)) (c1 : w.cell? ⟨LB0, 1, none⟩ = some (Pw B)) (c2 : w.cell? ⟨LB1, 0, none⟩ = some (Pw BX)) {ops : Array Oper} {rest : List Oper} {o : Oper} {a : Act} {Q : Exit → Act → World → Prop} (hgd : o.guard = none) (s x : Operand)
    (ho : o.op = .call { callee := .builtin .append, args := #[s, x], argTypes := #[81, 81] }) (hs : a.eval s = .slice (some ⟨LB0, 0, none⟩) 2 2) (hx : a.eval x = .slice (some ⟨LB1, 0, none⟩) 1 1)
    (hK : ∀ (cc : Nat) (row : Array Value), row[0]? = some (.pointer none) → row[1]? = some (Pw B) → row[2]? = some (Pw BX) → wpList Tryz.prog ops Q rest (a.put o.dst (.slice (some ⟨w.heap.size, 0, none⟩) 3 cc)) (w.drew.alloc (.cells row 80))) : wpList Tryz.prog ops Q (o :: rest) a w :=
  wpList_plain hgd fun _ hK' => by
    obtain ⟨cc, row, h0, h1, h2, hrun⟩ := append_ptrs c0 c1 c2 o.type
    unfold Oper.wp execOp
    simp only [ho, resolve, invoke, builtin, Sem.run_bind, Sem.run_pure, Result.andThen_ok, List.map_toArray, List.map_cons, List.map_nil, hs, hx, hrun]
    exact hK' _ _ (hK cc row h0 h1 h2)
def VP (w : World) (v : Value) : Prop := ∀ W, Below w.heap.size w W →
  (Calls Tryz.prog 24 #[v] W fun e w' => e = .returned (.tuple #[plV 0 0, plV 0 0]) ∧ Below W.heap.size W w') ∧ (Calls Tryz.prog 25 #[v] W fun e w' => e = .returned (.bool true) ∧ W = w') ∧ ∀ u, Calls Tryz.prog 26 #[v, u] W fun e w' => e = .returned (.bool true) ∧ W = w'
theorem vp_nil (w : World) : VP w (.pointer none) := fun W _ => ⟨got_nilp W, over_nil W, fun u => pstep_nilp u W⟩
theorem vp_blk {w : World} {B a b c : Nat} {P : Option Addr} (h : w.heap[B]? = some (.cells (pairC a b 0 0 0 0 (.slice P 0 c)) 76 (0, 0))) : VP w (Pw B) := fun W hb => by
  have h2 := (hb.block B (heap_lt h)).trans h
  exact ⟨got_blk h2, by have := over_cell (cell_row h2 6); rwa [decide_eq_true rfl] at this, fun u => pstep_void (cell_row h2 6) u⟩
theorem VP.new {w w' : World} {v : Value} (h : VP w v) (b : Below w.heap.size w w') : VP w' v := fun W hb => h W (b.trans (hb.mono b.size))
theorem begin_v (w : World) : Calls Tryz.prog 12 #[.agg #[.int .i64 0, .int .u64 0, .slice none 0 0, .slice none 0 0, .slice none 0 0, .slice none 0 0, .int .u64 0]] w fun e w' => ∃ M X Y, e = .returned (.agg #[Pw X.wB, Pw Y.wB]) ∧ Bg w w' w.heap.size X.wB Y.wB 1200 2097164 7 M M [] X Y := S14.begin_void w
theorem law_void_neg (t : Int) (a b : Nat) (ht : t < 0) (w : World) : Calls Tryz.prog 4 #[.int .i64 t, .int .u32 (a : Int), .int .u32 (b : Int)] w fun e w' => e = .returned (.bool true) ∧ Below w.heap.size w w' := by
  have HBG := Lib.hid (begin_v w)
  have HLV := Lib.hid (fun W => lives16 W)
  have HNP : Hid (∀ W, Calls Tryz.prog 23 #[.int .i64 1, .int .u32 (a : Int), .int .u32 (b : Int)] W fun e w' => ∃ v, e = .returned v ∧ NewPr W w' 1 a b v) := Lib.hid (fun W => new_pair (t := 1) (by omega) W)
  obtain ⟨L1, hz1⟩ : ∃ L : Nat, S10.lockZ 2 0 = (L : Int) := ⟨260, by decide⟩
  obtain ⟨L2, hz2⟩ : ∃ L : Nat, S10.lockZ 2 1 = (L : Int) := ⟨261, by decide⟩
  have HNA := Lib.hid (fun W => apart_bel hz1 hz2 (by decide) W)
  have HNN := Lib.hid (fun W => new_none (t := t) (by omega) a b W)
  have d1 : decide (t < 0) = true := decide_eq_true ht
  have heq : ∀ W : World, (binOp .neq 27 (.agg #[.int .i64 0, .int .i64 0]) (.agg #[.int .i64 0, .int .i64 0])).run Tryz.prog W = .ok (.bool false) W := fun W => neqS 0 0 W
  clear ht hz1 hz2
  go_enter Tryz.func4, Tryz.ntmps4
  go_upto_region 6 with (go_at_call 12; refine HBG.out.mono ?_; rintro e w2 ⟨M, X, Y, rfl, hbg⟩)
  obtain ⟨w3, hw3⟩ : ∃ w3, w3 = w2.alloc (.cells #[Pw X.wB, Pw Y.wB] 38) := ⟨_, rfl⟩
  obtain ⟨w4, hw4⟩ : ∃ w4, w4 = w3.alloc (.cells #[.int .u32 0, .int .u32 0, .int .i64 0, .int .i64 0, .int .i64 0, .int .i64 0, .slice none 0 0] 76) := ⟨_, rfl⟩
  obtain ⟨w5, hw5⟩ : ∃ w5, w5 = w4.alloc (.cells #[.slice none 0 0] 78) := ⟨_, rfl⟩
  obtain ⟨w6, hw6⟩ : ∃ w6, w6 = w5.alloc (.cells #[.pointer none, Pw w3.heap.size] 80) := ⟨_, rfl⟩
  have z3 : w3.heap.size = w2.heap.size + 1 := by rw [hw3]; simp
  have z4 : w4.heap.size = w2.heap.size + 1 + 1 := by rw [hw4, alloc_size, z3]
  have z5 : w5.heap.size = w2.heap.size + 1 + 1 + 1 := by rw [hw5, alloc_size, z4]
  have b3 : Below w2.heap.size w2 w3 := by rw [hw3]; exact below1 _ _
  have b4 : Below w3.heap.size w3 w4 := by rw [hw4]; exact below1 _ _
  have b5 : Below w4.heap.size w4 w5 := by rw [hw5]; exact below1 _ _
  have b6 : Below w5.heap.size w5 w6 := by rw [hw6]; exact below1 _ _
  have q3 : w3.heap[w2.heap.size]? = some (.cells #[Pw X.wB, Pw Y.wB] 38 (0, 0)) := by rw [hw3]; exact heap_alloc_new _ _
  have q4 : w4.heap[w3.heap.size]? = some (.cells (pairC 0 0 0 0 0 0 (.slice none 0 0)) 76 (0, 0)) := by rw [hw4]; exact heap_alloc_new _ _
  have q5 : w5.heap[w4.heap.size]? = some (.cells #[.slice none 0 0] 78 (0, 0)) := by rw [hw5]; exact heap_alloc_new _ _
  have q6 : w6.heap[w5.heap.size]? = some (.cells #[.pointer none, Pw w3.heap.size] 80 (0, 0)) := by rw [hw6]; exact heap_alloc_new _ _
  have p6 := (b6.block _ (heap_lt ((b5.block _ (heap_lt ((b4.block _ (heap_lt q3)).trans q3))).trans ((b4.block _ (heap_lt q3)).trans q3)))).trans ((b5.block _ (heap_lt ((b4.block _ (heap_lt q3)).trans q3))).trans ((b4.block _ (heap_lt q3)).trans q3))
  have v6 := (b6.block _ (heap_lt ((b5.block _ (heap_lt q4)).trans q4))).trans ((b5.block _ (heap_lt q4)).trans q4)
  have a6 := (b6.block _ (heap_lt q5)).trans q5
  have hbg6 := (((hbg.new b3).new b4).new b5).new b6
  have e6 : (((w2.alloc (.cells #[Pw X.wB, Pw Y.wB] 38)).alloc (.cells #[.int .u32 0, .int .u32 0, .int .i64 0, .int .i64 0, .int .i64 0, .int .i64 0, .slice none 0 0] 76)).alloc (.cells #[.slice none 0 0] 78)).alloc (.cells #[.pointer none, Pw (w2.heap.size + 1)] 80) = w6 := by rw [hw6, hw5, hw4, ← hw3, z3]
  rw [e6]
  have HB6 := Lib.hid hbg6; have HP6 := Lib.hid p6; have HV6 := Lib.hid v6; have HA6 := Lib.hid a6; have HQ6 := Lib.hid q6; have HZ := Lib.hid (And.intro z3 (And.intro z4 z5))
  clear hw3 hw4 hw5 hw6 z3 z4 z5 b3 b4 b5 b6 q3 q4 q5 q6 p6 v6 a6 hbg6 hbg e6 HBG
  rw [HZ.out.1] at HV6 HQ6
  rw [HZ.out.2.1] at HA6
  rw [HZ.out.2.2] at HQ6
  clear HZ
  generalize w2.heap.size = PB at *
  generalize PB + 1 = PX at *
  generalize PX + 1 = AX at *
  generalize AX + 1 = LB at *
  clear w3 w4 w5
  have hA6 : (w6.alloc (.cells (pairC a b 0 0 0 0 (.slice none 0 0)) 76)).heap[w6.heap.size]? = some (.cells (pairC a b 0 0 0 0 (.slice none 0 0)) 76 (0, 0)) := heap_alloc_new _ _
  have hzA : (w6.alloc (.cells (pairC a b 0 0 0 0 (.slice none 0 0)) 76)).heap.size = w6.heap.size + 1 := alloc_size _ _
  have k0 : ((w6.alloc (.cells (pairC a b 0 0 0 0 (.slice none 0 0)) 76)).alloc (.cells #[Pw w6.heap.size] 80)).cell? ⟨LB, 0, none⟩ = some (.pointer none) := cell_row ((alloc_lt (Nat.lt_trans (heap_lt HQ6.out) (by rw [alloc_size]; omega))).trans ((alloc_lt (heap_lt HQ6.out)).trans HQ6.out)) 0
  have k1 : ((w6.alloc (.cells (pairC a b 0 0 0 0 (.slice none 0 0)) 76)).alloc (.cells #[Pw w6.heap.size] 80)).cell? ⟨LB, 1, none⟩ = some (Pw PX) := cell_row ((alloc_lt (Nat.lt_trans (heap_lt HQ6.out) (by rw [alloc_size]; omega))).trans ((alloc_lt (heap_lt HQ6.out)).trans HQ6.out)) 1
  have k2 : ((w6.alloc (.cells (pairC a b 0 0 0 0 (.slice none 0 0)) 76)).alloc (.cells #[Pw w6.heap.size] 80)).cell? ⟨w6.heap.size + 1, 0, none⟩ = some (Pw w6.heap.size) := by
    rw [← hzA]; exact cell_row (heap_alloc_new _ _) 0
  have hA8 : ((w6.alloc (.cells (pairC a b 0 0 0 0 (.slice none 0 0)) 76)).alloc (.cells #[Pw w6.heap.size] 80)).heap[w6.heap.size]? = some (.cells (pairC a b 0 0 0 0 (.slice none 0 0)) 76 (0, 0)) := (alloc_lt (heap_lt hA6)).trans hA6
  have hb8 : Below w6.heap.size w6 ((w6.alloc (.cells (pairC a b 0 0 0 0 (.slice none 0 0)) 76)).alloc (.cells #[Pw w6.heap.size] 80)) := (below1 w6 _).alloc (by rw [alloc_size]; omega) _
  have hz8 : ((w6.alloc (.cells (pairC a b 0 0 0 0 (.slice none 0 0)) 76)).alloc (.cells #[Pw w6.heap.size] 80)).heap.size = w6.heap.size + 1 + 1 := by rw [alloc_size, alloc_size]
  have HA8 := Lib.hid hA8; have HB8 := Lib.hid hb8; have HZ8 := Lib.hid hz8
  clear hA6 hzA hA8 hb8 hz8
  go_upto_region 8 with (first
    | (go_at_call 23; refine (HNN.out _).mono ?_; rintro e w7 ⟨rfl, rfl⟩)
    | (at_builtin; refine wpList_append_ptrs (LB0 := LB) (LB1 := w6.heap.size + 1) (B := PX) (BX := w6.heap.size) k0 k1 k2 rfl _ _ rfl rfl rfl ?_; intro cc row r0 r1 r2))
  have hbr : Below w6.heap.size w6 (((w6.alloc (.cells (pairC a b 0 0 0 0 (.slice none 0 0)) 76)).alloc (.cells #[Pw w6.heap.size] 80)).alloc (.cells row 80)).drew := (HB8.out.alloc HB8.out.size _).drew
  have hrw : (((w6.alloc (.cells (pairC a b 0 0 0 0 (.slice none 0 0)) 76)).alloc (.cells #[Pw w6.heap.size] 80)).alloc (.cells row 80)).drew.heap[w6.heap.size + 1 + 1]? = some (.cells row 80 (0, 0)) := by rw [← HZ8.out]; exact heap_alloc_new ((w6.alloc (.cells (pairC a b 0 0 0 0 (.slice none 0 0)) 76)).alloc (.cells #[Pw w6.heap.size] 80)) (.cells row 80)
  have hpx : (((w6.alloc (.cells (pairC a b 0 0 0 0 (.slice none 0 0)) 76)).alloc (.cells #[Pw w6.heap.size] 80)).alloc (.cells row 80)).drew.heap[PX]? = some (.cells (pairC 0 0 0 0 0 0 (.slice none 0 0)) 76 (0, 0)) := (hbr.block _ (heap_lt HV6.out)).trans HV6.out
  have hab : (((w6.alloc (.cells (pairC a b 0 0 0 0 (.slice none 0 0)) 76)).alloc (.cells #[Pw w6.heap.size] 80)).alloc (.cells row 80)).drew.heap[w6.heap.size]? = some (.cells (pairC a b 0 0 0 0 (.slice none 0 0)) 76 (0, 0)) := (alloc_lt (w := ((w6.alloc (.cells (pairC a b 0 0 0 0 (.slice none 0 0)) 76)).alloc (.cells #[Pw w6.heap.size] 80))) (ob := .cells row 80) (heap_lt HA8.out)).trans HA8.out
  obtain ⟨w9, hw9⟩ : ∃ w9, w9 = (((w6.alloc (.cells (pairC a b 0 0 0 0 (.slice none 0 0)) 76)).alloc (.cells #[Pw w6.heap.size] 80)).alloc (.cells row 80)).drew := ⟨_, rfl⟩
  rw [← hw9] at hbr hrw hpx hab ⊢
  have hel : ∀ i : Nat, i < 3 → ∃ v, w9.cell? ⟨w6.heap.size + 1 + 1, i, none⟩ = some v ∧ VP w9 v := fun i hi => by
    rcases (show i = 0 ∨ i = 1 ∨ i = 2 by omega) with rfl | rfl | rfl
    · exact ⟨_, cell_at hrw r0, vp_nil w9⟩
    · exact ⟨_, cell_at hrw r1, vp_blk hpx⟩
    · exact ⟨_, cell_at hrw r2, vp_blk hab⟩
  have HEL := Lib.hid hel; have HB9 := Lib.hid hbr
  clear hbr hrw hpx hab hw9 hel HB8 HZ8 HA8 k0 k1 k2 r0 r1 r2
  generalize w6.heap.size + 1 + 1 = LN at *
  have hp9 : ∀ W, Below w9.heap.size w9 W → W.cell? ⟨PB, 0, none⟩ = some (Pw X.wB) ∧ W.cell? ⟨PB, 1, none⟩ = some (Pw Y.wB) := fun W hW => ⟨bcell (HB9.out.trans (hW.mono HB9.out.size)) (cell_row HP6.out 0), bcell (HB9.out.trans (hW.mono HB9.out.size)) (cell_row HP6.out 1)⟩
  have HP9 := Lib.hid hp9
  clear hp9
  go_wp2_with fail
  go_loopg [12, 13, 14] 3 (fun q s12 s13 s14 wx => ∃ i : Nat, i ≤ 3 ∧ q = 3 - i ∧ s12 = .int .i64 (i : Int) ∧ Below w9.heap.size w9 wx)
  case atStart => exact ⟨0, by omega, rfl, rfl, Below.refl _ _⟩
  case round =>
    obtain ⟨i, hi, rfl, rfl, hbx⟩ := hrel
    by_cases hin : i < 3
    · obtain ⟨v, hv, hvp⟩ := HEL.out i hin
      have hv2 : wr.cell? ⟨LN, i, none⟩ = some v := bcell hbx hv
      have hi5 : (i : Int) < 3 := by omega
      have d4 : decide ((i : Int) < 3) = true := decide_eq_true hi5
      have HVP := Lib.hid (hvp.new hbx); have HBX := Lib.hid hbx; have HV := Lib.hid hv
      clear hbx hvp hv
      go_upto_region 12 with (go_at_call 24; refine (HVP.out _ (Below.refl _ _)).1.mono ?_; rintro e w10 ⟨rfl, hb10⟩; have HB10 := Lib.hid hb10; clear hb10)
      obtain ⟨w12, hw12⟩ : ∃ w12, w12 = (w10.alloc (.cells #[.int .i64 0, .int .i64 0] 27)).alloc (.cells #[.int .i64 0, .int .i64 0] 27) := ⟨_, rfl⟩
      obtain ⟨XB, hXB⟩ : ∃ XB, XB = w10.heap.size := ⟨_, rfl⟩
      have hx : w12.heap[XB]? = some (.cells #[.int .i64 0, .int .i64 0] 27 (0, 0)) := by
        rw [hw12, alloc_lt (by rw [alloc_size, hXB]; omega)]; exact alloc_at hXB
      have hy : w12.heap[XB + 1]? = some (.cells #[.int .i64 0, .int .i64 0] 27 (0, 0)) := by
        rw [hw12]; exact alloc_at (by rw [alloc_size, hXB])
      have hb12 : Below wr.heap.size wr w12 := by
        rw [hw12]; exact (HB10.out.alloc HB10.out.size _).alloc (by rw [alloc_size]; have := HB10.out.size; omega) _
      rw [← hw12, ← hXB]
      have hv3 : w12.cell? ⟨LN, i, none⟩ = some v := bcell hb12 hv2
      have c0 := (HP9.out w12 (HBX.out.trans (hb12.mono HBX.out.size))).1
      have x0 : w12.cell? ⟨XB, 0, none⟩ = some (.int .i64 0) := cell_row hx 0
      have x1 : w12.cell? ⟨XB, 1, none⟩ = some (.int .i64 0) := cell_row hx 1
      have y0 : w12.cell? ⟨XB + 1, 0, none⟩ = some (.int .i64 0) := cell_row hy 0
      have y1 : w12.cell? ⟨XB + 1, 1, none⟩ = some (.int .i64 0) := cell_row hy 1
      have HB12d := Lib.hid hb12.drew; have HC12 : Hid ((fun w' => w'.cell? ⟨LN, i, none⟩ = some v ∧ w'.cell? ⟨PB, 0, none⟩ = some (Pw X.wB) ∧ w'.cell? ⟨XB, 0, none⟩ = some (.int .i64 0) ∧ w'.cell? ⟨XB, 1, none⟩ = some (.int .i64 0) ∧ w'.cell? ⟨XB + 1, 0, none⟩ = some (.int .i64 0) ∧ w'.cell? ⟨XB + 1, 1, none⟩ = some (.int .i64 0)) w12.drew) := Lib.hid ⟨hv3, c0, x0, x1, y0, y1⟩; have HB12 := Lib.hid (HBX.out.trans (hb12.mono HBX.out.size)); have HIN := Lib.hid hin
      clear hw12 hXB hx hy hb12 hv2 HB10 HBX HV hin hv3 c0 x0 x1 y0 y1
      refine wp_region_held_drew (S := fun w' => w'.cell? ⟨LN, i, none⟩ = some v ∧ w'.cell? ⟨PB, 0, none⟩ = some (Pw X.wB) ∧ w'.cell? ⟨XB, 0, none⟩ = some (.int .i64 0) ∧ w'.cell? ⟨XB, 1, none⟩ = some (.int .i64 0) ∧ w'.cell? ⟨XB + 1, 0, none⟩ = some (.int .i64 0) ∧ w'.cell? ⟨XB + 1, 1, none⟩ = some (.int .i64 0)) (by kernel_rfl) ?_ (fun hHeld => ?_)
      · exact HC12.out
      refine tA 0 ⟨some 47, .move (.tmp 11), 81, "law.go:97", #[], none⟩ ?vrnm1 ?rrnm1
      (try simp only [Act.put, tC, tD, tE])
      refine tA 1 ⟨some 48, .move (.tmp 12), 3, "law.go:97", #[], none⟩ ?vrnm2 ?rrnm2
      (try simp only [Act.put, tC, tD, tE])
      refine tA 2 ⟨some 49, .indexAddr 81 (.tmp 47) (.tmp 48), 0, "law.go:97", #[⟨0, .data⟩, ⟨1, .data⟩], none⟩ ?vrnm3 ?rrnm3
      (try simp only [Act.put, tC, tD, tE])
      refine tA 3 ⟨some 50, .load 80 (.tmp 49), 80, "law.go:97", #[⟨2, .data⟩], none⟩ ?vrnm4 ?rrnm4
      (try simp only [Act.put, tC, tD, tE])
      refine wpAnyH_ready (rs := [4]) (by kernel_rfl) (by simp) ?_
      refine AllReadyH.cons (o := ⟨some 51, .call ⟨.value (.func 25), #[.tmp 50], #[80]⟩, 4, "law.go:97", #[⟨3, .data⟩], none⟩) rfl (fun Kq hKq => ?_) AllReadyH.nil
      go_simp
      (refine (HVP.out _ HB12d.out).2.1.mono ?_; rintro e w13 ⟨rfl, rfl⟩)
      refine hKq.out _ _ ?_ (fun hHeld => ?_)
      · exact hHeld
      clear hKq Kq
      (try simp only [Act.put, tC, tD, tE])
      refine tA 5 ⟨some 52, .unOp .not 4 (.tmp 51), 4, "law.go:97", #[⟨4, .data⟩], none⟩ ?vrnm5 ?rrnm5
      (try simp only [Act.put, tC, tD, tE])
      refine tA 6 ⟨some 53, .move (.tmp 52), 4, "law.go:97", #[⟨5, .data⟩, ⟨4, .chain⟩], none⟩ ?vrnm6 ?rrnm6
      (try simp only [Act.put, tC, tD, tE])
      refine tA 7 ⟨some 54, .move (.tmp 11), 81, "law.go:97", #[⟨6, .guard⟩], some (6, false)⟩ ?vrnm7 ?rrnm7
      (try simp only [Act.put, tC, tD, tE])
      refine tA 8 ⟨some 55, .move (.tmp 12), 3, "law.go:97", #[⟨6, .guard⟩], some (6, false)⟩ ?vrnm8 ?rrnm8
      (try simp only [Act.put, tC, tD, tE])
      refine tA 9 ⟨some 56, .indexAddr 81 (.tmp 54) (.tmp 55), 0, "law.go:97", #[⟨7, .data⟩, ⟨8, .data⟩, ⟨6, .guard⟩], some (6, false)⟩ ?vrnm9 ?rrnm9
      (try simp only [Act.put, tC, tD, tE])
      refine tA 10 ⟨some 57, .load 80 (.tmp 56), 80, "law.go:97", #[⟨9, .data⟩, ⟨6, .guard⟩], some (6, false)⟩ ?vrnm10 ?rrnm10
      (try simp only [Act.put, tC, tD, tE])
      refine tA 11 ⟨some 58, .fieldAddr 38 (.tmp 7) 0, 0, "law.go:97", #[⟨6, .guard⟩], some (6, false)⟩ ?vrnm11 ?rrnm11
      (try simp only [Act.put, tC, tD, tE])
      refine tA 12 ⟨some 59, .load 35 (.tmp 58), 35, "law.go:97", #[⟨11, .data⟩, ⟨6, .guard⟩], some (6, false)⟩ ?vrnm12 ?rrnm12
      (try simp only [Act.put, tC, tD, tE])
      refine wpAnyH_ready (rs := [13]) (by kernel_rfl) (by simp) ?_
      refine AllReadyH.cons (o := ⟨some 60, .call ⟨.value (.func 26), #[.tmp 57, .tmp 59], #[80, 35]⟩, 4, "law.go:97", #[⟨10, .data⟩, ⟨12, .data⟩, ⟨6, .chain⟩, ⟨6, .guard⟩], some (6, false)⟩) rfl (fun Kq hKq => ?_) AllReadyH.nil
      go_simp
      (refine ((HVP.out _ HB12d.out).2.2 _).mono ?_; rintro e w13 ⟨rfl, rfl⟩)
      refine hKq.out _ _ ?_ (fun hHeld => ?_)
      · exact hHeld
      clear hKq Kq
      (try simp only [Act.put, tC, tD, tE])
      refine tA 14 ⟨some 61, .unOp .not 4 (.tmp 60), 4, "law.go:97", #[⟨13, .data⟩, ⟨6, .guard⟩], some (6, false)⟩ ?vrnm13 ?rrnm13
      (try simp only [Act.put, tC, tD, tE])
      refine tA 15 ⟨some 62, .pick (.tmp 53) (.const (.bool true)) (.tmp 61), 4, "law.go:97", #[⟨6, .data⟩, ⟨14, .data⟩], none⟩ ?vrnm14 ?rrnm14
      (try simp only [Act.put, tC, tD, tE])
      refine tA 16 ⟨some 63, .move (.tmp 62), 4, "law.go:97", #[⟨15, .data⟩, ⟨13, .chain⟩], none⟩ ?vrnm15 ?rrnm15
      (try simp only [Act.put, tC, tD, tE])
      refine tA 17 ⟨some 64, .load 27 (.tmp 13), 27, "law.go:97", #[⟨16, .guard⟩], some (16, false)⟩ ?vrnm16 ?rrnm16
      (try simp only [Act.put, tC, tD, tE])
      refine tA 18 ⟨some 65, .build 27 #[], 27, "law.go:97", #[⟨16, .guard⟩], some (16, false)⟩ ?vrnm17 ?rrnm17
      (try simp only [Act.put, tC, tD, tE])
      refine tA 19 ⟨some 66, .binOp .neq 27 (.tmp 64) (.tmp 65) 27, 4, "law.go:97", #[⟨17, .data⟩, ⟨18, .data⟩, ⟨16, .guard⟩], some (16, false)⟩ ?vrnm18 ?rrnm18
      (try simp only [Act.put, tC, tD, tE])
      refine tA 20 ⟨some 67, .pick (.tmp 63) (.const (.bool true)) (.tmp 66), 4, "law.go:97", #[⟨16, .data⟩, ⟨19, .data⟩], none⟩ ?vrnm19 ?rrnm19
      (try simp only [Act.put, tC, tD, tE])
      refine tA 21 ⟨some 68, .move (.tmp 67), 4, "law.go:97", #[⟨20, .data⟩, ⟨16, .chain⟩], none⟩ ?vrnm20 ?rrnm20
      (try simp only [Act.put, tC, tD, tE])
      refine tA 22 ⟨some 69, .load 27 (.tmp 14), 27, "law.go:97", #[⟨21, .guard⟩], some (21, false)⟩ ?vrnm21 ?rrnm21
      (try simp only [Act.put, tC, tD, tE])
      refine tA 23 ⟨some 70, .load 27 (.tmp 13), 27, "law.go:97", #[⟨21, .guard⟩], some (21, false)⟩ ?vrnm22 ?rrnm22
      (try simp only [Act.put, tC, tD, tE])
      refine tA 24 ⟨some 71, .binOp .neq 27 (.tmp 69) (.tmp 70) 27, 4, "law.go:97", #[⟨22, .data⟩, ⟨23, .data⟩, ⟨21, .guard⟩], some (21, false)⟩ ?vrnm23 ?rrnm23
      (try simp only [Act.put, tC, tD, tE])
      refine tA 25 ⟨some 72, .pick (.tmp 68) (.const (.bool true)) (.tmp 71), 4, "law.go:97", #[⟨21, .data⟩, ⟨24, .data⟩], none⟩ ?vrnm24 ?rrnm24
      (try simp only [Act.put, tC, tD, tE])
      refine wpAnyH_done (by kernel_rfl) ?_ _
      clear hHeld
      go_wp2_with fail
      go_roundg (3 - (i + 1))
      case measure => have := HIN.out; omega
      case rel => exact ⟨i + 1, by have := HIN.out; omega, rfl, by go_num, HB12.out.drew⟩
    · obtain rfl : i = 3 := by omega
      have HBX := Lib.hid hbx
      clear hbx hin hi
      go_upto_region 15 with (go_at_call 23; refine (HNP.out _).mono ?_; rintro e w20 ⟨v, rfl, hnp⟩)
      obtain ⟨PB2, XC, TC, LC, rfl, hok, hb20, _⟩ := hnp
      have q20 := hok.1 _ (List.mem_cons_self ..)
      have HQ20 := Lib.hid q20; have HB20 := Lib.hid hb20
      clear hok hb20 q20
      go_upto_region 16 with (go_at_call 27; refine (HNA.out _).mono ?_; rintro e w21 ⟨AB2, P2, c2, rfl, hb21, ha21⟩; have HB21 := Lib.hid hb21; have HA21 := Lib.hid ha21; clear hb21 ha21)
      have hb6 : Below w6.heap.size w6 w21 := ((HB9.out.trans (HBX.out.mono HB9.out.size)).trans (HB20.out.mono (Nat.le_trans HB9.out.size HBX.out.size))).trans (HB21.out.mono (Nat.le_trans (Nat.le_trans HB9.out.size HBX.out.size) HB20.out.size))
      have hbg := HB6.out.new hb6
      have hall := pair_all hbg (by omega) (by omega)
      have c0 : w21.cell? ⟨PB, 0, none⟩ = some (Pw X.wB) := bcell hb6 (cell_row HP6.out 0)
      have c1 : w21.cell? ⟨PB, 1, none⟩ = some (Pw Y.wB) := bcell hb6 (cell_row HP6.out 1)
      have a0 : w21.cell? ⟨AX, 0, none⟩ = some (.slice none 0 0) := bcell hb6 (cell_row HA6.out 0)
      have b0 : w21.cell? ⟨PB2, 6, none⟩ = some (.slice (some ⟨LC, 0, none⟩) (0 + 1) 1) := bcell HB21.out (cell_row HQ20.out 6)
      have h1 := aover_cell a0
      rw [decide_eq_true rfl] at h1
      have h2 := over_cell b0
      rw [decide_eq_false (by omega)] at h2
      have h3 := aover_cell HA21.out
      rw [decide_eq_false (by omega)] at h3
      have H1 := Lib.hid h1; have H2 := Lib.hid h2; have H3 := Lib.hid h3
      have H4 := Lib.hid (fun u => astep_void a0 u); have H5 := Lib.hid (pstep_still b0); have H6 := Lib.hid (astep_still HA21.out)
      have H7 := Lib.hid (aover_nil w21); have H8 := Lib.hid (fun u => astep_nilp u w21)
      have HAL := Lib.hid hall; have HBW := Lib.hid (HB6.out.bl.trans (hb6.mono HB6.out.bl.size))
      clear h1 h2 h3 a0 b0 hbg hall hb6 HQ20 HB20 HB21 HA21 HBX HNP HNA HEL HP9 HB9 HB6 HP6 HV6 HA6 HQ6
      go_wp2_with (first
        | (go_at_call 28; (with_reducible refine H1.out.mono ?_); rintro e w6 ⟨rfl, rfl⟩)
        | (go_at_call 28; (with_reducible refine H7.out.mono ?_); rintro e w6 ⟨rfl, rfl⟩)
        | (go_at_call 28; (with_reducible refine H3.out.mono ?_); rintro e w6 ⟨rfl, rfl⟩)
        | (go_at_call 29; (with_reducible refine (H4.out _).mono ?_); rintro e w6 ⟨rfl, rfl⟩)
        | (go_at_call 29; (with_reducible refine (H8.out _).mono ?_); rintro e w6 ⟨rfl, rfl⟩)
        | (go_at_call 29; (with_reducible refine H6.out.mono ?_); rintro e w6 ⟨rfl, rfl⟩)
        | (go_at_call 25; (with_reducible refine H2.out.mono ?_); rintro e w6 ⟨rfl, rfl⟩)
        | (go_at_call 26; (with_reducible refine H5.out.mono ?_); rintro e w6 ⟨rfl, rfl⟩)
        | (go_at_call 21; refine HAL.out.mono ?_; rintro e w7 ⟨rfl, hb7⟩; have HB7 := Lib.hid hb7; clear hb7)
        | (go_at_call 30; refine (HLV.out _).mono ?_; rintro e w8 ⟨rfl, hb8⟩; have HB8 := Lib.hid hb8; clear hb8))
      go_ret
      exact ⟨rfl, (HBW.out.trans (HB7.out.mono HBW.out.size)).trans (HB8.out.mono (Nat.le_trans HBW.out.size HB7.out.size))⟩
theorem law_void_big (t : Int) (a b : Nat) (ht : 64 ≤ t) (w : World) : Calls Tryz.prog 4 #[.int .i64 t, .int .u32 (a : Int), .int .u32 (b : Int)] w fun e w' => e = .returned (.bool true) ∧ Below w.heap.size w w' := by
  have HBG := Lib.hid (begin_v w)
  have HLV := Lib.hid (fun W => lives16 W)
  have HNP : Hid (∀ W, Calls Tryz.prog 23 #[.int .i64 1, .int .u32 (a : Int), .int .u32 (b : Int)] W fun e w' => ∃ v, e = .returned v ∧ NewPr W w' 1 a b v) := Lib.hid (fun W => new_pair (t := 1) (by omega) W)
  obtain ⟨L1, hz1⟩ : ∃ L : Nat, S10.lockZ 2 0 = (L : Int) := ⟨260, by decide⟩
  obtain ⟨L2, hz2⟩ : ∃ L : Nat, S10.lockZ 2 1 = (L : Int) := ⟨261, by decide⟩
  have HNA := Lib.hid (fun W => apart_bel hz1 hz2 (by decide) W)
  have HNN := Lib.hid (fun W => new_none (t := t) (by omega) a b W)
  have d1 : decide (t < 0) = false := decide_eq_false (by omega)
  have d2 : decide (64 ≤ t) = true := decide_eq_true ht
  have heq : ∀ W : World, (binOp .neq 27 (.agg #[.int .i64 0, .int .i64 0]) (.agg #[.int .i64 0, .int .i64 0])).run Tryz.prog W = .ok (.bool false) W := fun W => neqS 0 0 W
  clear ht hz1 hz2
  go_enter Tryz.func4, Tryz.ntmps4
  go_upto_region 6 with (go_at_call 12; refine HBG.out.mono ?_; rintro e w2 ⟨M, X, Y, rfl, hbg⟩)
  obtain ⟨w3, hw3⟩ : ∃ w3, w3 = w2.alloc (.cells #[Pw X.wB, Pw Y.wB] 38) := ⟨_, rfl⟩
  obtain ⟨w4, hw4⟩ : ∃ w4, w4 = w3.alloc (.cells #[.int .u32 0, .int .u32 0, .int .i64 0, .int .i64 0, .int .i64 0, .int .i64 0, .slice none 0 0] 76) := ⟨_, rfl⟩
  obtain ⟨w5, hw5⟩ : ∃ w5, w5 = w4.alloc (.cells #[.slice none 0 0] 78) := ⟨_, rfl⟩
  obtain ⟨w6, hw6⟩ : ∃ w6, w6 = w5.alloc (.cells #[.pointer none, Pw w3.heap.size] 80) := ⟨_, rfl⟩
  have z3 : w3.heap.size = w2.heap.size + 1 := by rw [hw3]; simp
  have z4 : w4.heap.size = w2.heap.size + 1 + 1 := by rw [hw4, alloc_size, z3]
  have z5 : w5.heap.size = w2.heap.size + 1 + 1 + 1 := by rw [hw5, alloc_size, z4]
  have b3 : Below w2.heap.size w2 w3 := by rw [hw3]; exact below1 _ _
  have b4 : Below w3.heap.size w3 w4 := by rw [hw4]; exact below1 _ _
  have b5 : Below w4.heap.size w4 w5 := by rw [hw5]; exact below1 _ _
  have b6 : Below w5.heap.size w5 w6 := by rw [hw6]; exact below1 _ _
  have q3 : w3.heap[w2.heap.size]? = some (.cells #[Pw X.wB, Pw Y.wB] 38 (0, 0)) := by rw [hw3]; exact heap_alloc_new _ _
  have q4 : w4.heap[w3.heap.size]? = some (.cells (pairC 0 0 0 0 0 0 (.slice none 0 0)) 76 (0, 0)) := by rw [hw4]; exact heap_alloc_new _ _
  have q5 : w5.heap[w4.heap.size]? = some (.cells #[.slice none 0 0] 78 (0, 0)) := by rw [hw5]; exact heap_alloc_new _ _
  have q6 : w6.heap[w5.heap.size]? = some (.cells #[.pointer none, Pw w3.heap.size] 80 (0, 0)) := by rw [hw6]; exact heap_alloc_new _ _
  have p6 := (b6.block _ (heap_lt ((b5.block _ (heap_lt ((b4.block _ (heap_lt q3)).trans q3))).trans ((b4.block _ (heap_lt q3)).trans q3)))).trans ((b5.block _ (heap_lt ((b4.block _ (heap_lt q3)).trans q3))).trans ((b4.block _ (heap_lt q3)).trans q3))
  have v6 := (b6.block _ (heap_lt ((b5.block _ (heap_lt q4)).trans q4))).trans ((b5.block _ (heap_lt q4)).trans q4)
  have a6 := (b6.block _ (heap_lt q5)).trans q5
  have hbg6 := (((hbg.new b3).new b4).new b5).new b6
  have e6 : (((w2.alloc (.cells #[Pw X.wB, Pw Y.wB] 38)).alloc (.cells #[.int .u32 0, .int .u32 0, .int .i64 0, .int .i64 0, .int .i64 0, .int .i64 0, .slice none 0 0] 76)).alloc (.cells #[.slice none 0 0] 78)).alloc (.cells #[.pointer none, Pw (w2.heap.size + 1)] 80) = w6 := by rw [hw6, hw5, hw4, ← hw3, z3]
  rw [e6]
  have HB6 := Lib.hid hbg6; have HP6 := Lib.hid p6; have HV6 := Lib.hid v6; have HA6 := Lib.hid a6; have HQ6 := Lib.hid q6; have HZ := Lib.hid (And.intro z3 (And.intro z4 z5))
  clear hw3 hw4 hw5 hw6 z3 z4 z5 b3 b4 b5 b6 q3 q4 q5 q6 p6 v6 a6 hbg6 hbg e6 HBG
  rw [HZ.out.1] at HV6 HQ6
  rw [HZ.out.2.1] at HA6
  rw [HZ.out.2.2] at HQ6
  clear HZ
  generalize w2.heap.size = PB at *
  generalize PB + 1 = PX at *
  generalize PX + 1 = AX at *
  generalize AX + 1 = LB at *
  clear w3 w4 w5
  have hA6 : (w6.alloc (.cells (pairC a b 0 0 0 0 (.slice none 0 0)) 76)).heap[w6.heap.size]? = some (.cells (pairC a b 0 0 0 0 (.slice none 0 0)) 76 (0, 0)) := heap_alloc_new _ _
  have hzA : (w6.alloc (.cells (pairC a b 0 0 0 0 (.slice none 0 0)) 76)).heap.size = w6.heap.size + 1 := alloc_size _ _
  have k0 : ((w6.alloc (.cells (pairC a b 0 0 0 0 (.slice none 0 0)) 76)).alloc (.cells #[Pw w6.heap.size] 80)).cell? ⟨LB, 0, none⟩ = some (.pointer none) := cell_row ((alloc_lt (Nat.lt_trans (heap_lt HQ6.out) (by rw [alloc_size]; omega))).trans ((alloc_lt (heap_lt HQ6.out)).trans HQ6.out)) 0
  have k1 : ((w6.alloc (.cells (pairC a b 0 0 0 0 (.slice none 0 0)) 76)).alloc (.cells #[Pw w6.heap.size] 80)).cell? ⟨LB, 1, none⟩ = some (Pw PX) := cell_row ((alloc_lt (Nat.lt_trans (heap_lt HQ6.out) (by rw [alloc_size]; omega))).trans ((alloc_lt (heap_lt HQ6.out)).trans HQ6.out)) 1
  have k2 : ((w6.alloc (.cells (pairC a b 0 0 0 0 (.slice none 0 0)) 76)).alloc (.cells #[Pw w6.heap.size] 80)).cell? ⟨w6.heap.size + 1, 0, none⟩ = some (Pw w6.heap.size) := by
    rw [← hzA]; exact cell_row (heap_alloc_new _ _) 0
  have hA8 : ((w6.alloc (.cells (pairC a b 0 0 0 0 (.slice none 0 0)) 76)).alloc (.cells #[Pw w6.heap.size] 80)).heap[w6.heap.size]? = some (.cells (pairC a b 0 0 0 0 (.slice none 0 0)) 76 (0, 0)) := (alloc_lt (heap_lt hA6)).trans hA6
  have hb8 : Below w6.heap.size w6 ((w6.alloc (.cells (pairC a b 0 0 0 0 (.slice none 0 0)) 76)).alloc (.cells #[Pw w6.heap.size] 80)) := (below1 w6 _).alloc (by rw [alloc_size]; omega) _
  have hz8 : ((w6.alloc (.cells (pairC a b 0 0 0 0 (.slice none 0 0)) 76)).alloc (.cells #[Pw w6.heap.size] 80)).heap.size = w6.heap.size + 1 + 1 := by rw [alloc_size, alloc_size]
  have HA8 := Lib.hid hA8; have HB8 := Lib.hid hb8; have HZ8 := Lib.hid hz8
  clear hA6 hzA hA8 hb8 hz8
  go_upto_region 8 with (first
    | (go_at_call 23; refine (HNN.out _).mono ?_; rintro e w7 ⟨rfl, rfl⟩)
    | (at_builtin; refine wpList_append_ptrs (LB0 := LB) (LB1 := w6.heap.size + 1) (B := PX) (BX := w6.heap.size) k0 k1 k2 rfl _ _ rfl rfl rfl ?_; intro cc row r0 r1 r2))
  have hbr : Below w6.heap.size w6 (((w6.alloc (.cells (pairC a b 0 0 0 0 (.slice none 0 0)) 76)).alloc (.cells #[Pw w6.heap.size] 80)).alloc (.cells row 80)).drew := (HB8.out.alloc HB8.out.size _).drew
  have hrw : (((w6.alloc (.cells (pairC a b 0 0 0 0 (.slice none 0 0)) 76)).alloc (.cells #[Pw w6.heap.size] 80)).alloc (.cells row 80)).drew.heap[w6.heap.size + 1 + 1]? = some (.cells row 80 (0, 0)) := by rw [← HZ8.out]; exact heap_alloc_new ((w6.alloc (.cells (pairC a b 0 0 0 0 (.slice none 0 0)) 76)).alloc (.cells #[Pw w6.heap.size] 80)) (.cells row 80)
  have hpx : (((w6.alloc (.cells (pairC a b 0 0 0 0 (.slice none 0 0)) 76)).alloc (.cells #[Pw w6.heap.size] 80)).alloc (.cells row 80)).drew.heap[PX]? = some (.cells (pairC 0 0 0 0 0 0 (.slice none 0 0)) 76 (0, 0)) := (hbr.block _ (heap_lt HV6.out)).trans HV6.out
  have hab : (((w6.alloc (.cells (pairC a b 0 0 0 0 (.slice none 0 0)) 76)).alloc (.cells #[Pw w6.heap.size] 80)).alloc (.cells row 80)).drew.heap[w6.heap.size]? = some (.cells (pairC a b 0 0 0 0 (.slice none 0 0)) 76 (0, 0)) := (alloc_lt (w := ((w6.alloc (.cells (pairC a b 0 0 0 0 (.slice none 0 0)) 76)).alloc (.cells #[Pw w6.heap.size] 80))) (ob := .cells row 80) (heap_lt HA8.out)).trans HA8.out
  obtain ⟨w9, hw9⟩ : ∃ w9, w9 = (((w6.alloc (.cells (pairC a b 0 0 0 0 (.slice none 0 0)) 76)).alloc (.cells #[Pw w6.heap.size] 80)).alloc (.cells row 80)).drew := ⟨_, rfl⟩
  rw [← hw9] at hbr hrw hpx hab ⊢
  have hel : ∀ i : Nat, i < 3 → ∃ v, w9.cell? ⟨w6.heap.size + 1 + 1, i, none⟩ = some v ∧ VP w9 v := fun i hi => by
    rcases (show i = 0 ∨ i = 1 ∨ i = 2 by omega) with rfl | rfl | rfl
    · exact ⟨_, cell_at hrw r0, vp_nil w9⟩
    · exact ⟨_, cell_at hrw r1, vp_blk hpx⟩
    · exact ⟨_, cell_at hrw r2, vp_blk hab⟩
  have HEL := Lib.hid hel; have HB9 := Lib.hid hbr
  clear hbr hrw hpx hab hw9 hel HB8 HZ8 HA8 k0 k1 k2 r0 r1 r2
  generalize w6.heap.size + 1 + 1 = LN at *
  have hp9 : ∀ W, Below w9.heap.size w9 W → W.cell? ⟨PB, 0, none⟩ = some (Pw X.wB) ∧ W.cell? ⟨PB, 1, none⟩ = some (Pw Y.wB) := fun W hW => ⟨bcell (HB9.out.trans (hW.mono HB9.out.size)) (cell_row HP6.out 0), bcell (HB9.out.trans (hW.mono HB9.out.size)) (cell_row HP6.out 1)⟩
  have HP9 := Lib.hid hp9
  clear hp9
  go_wp2_with fail
  go_loopg [12, 13, 14] 3 (fun q s12 s13 s14 wx => ∃ i : Nat, i ≤ 3 ∧ q = 3 - i ∧ s12 = .int .i64 (i : Int) ∧ Below w9.heap.size w9 wx)
  case atStart => exact ⟨0, by omega, rfl, rfl, Below.refl _ _⟩
  case round =>
    obtain ⟨i, hi, rfl, rfl, hbx⟩ := hrel
    by_cases hin : i < 3
    · obtain ⟨v, hv, hvp⟩ := HEL.out i hin
      have hv2 : wr.cell? ⟨LN, i, none⟩ = some v := bcell hbx hv
      have hi5 : (i : Int) < 3 := by omega
      have d4 : decide ((i : Int) < 3) = true := decide_eq_true hi5
      have HVP := Lib.hid (hvp.new hbx); have HBX := Lib.hid hbx; have HV := Lib.hid hv
      clear hbx hvp hv
      go_upto_region 12 with (go_at_call 24; refine (HVP.out _ (Below.refl _ _)).1.mono ?_; rintro e w10 ⟨rfl, hb10⟩; have HB10 := Lib.hid hb10; clear hb10)
      obtain ⟨w12, hw12⟩ : ∃ w12, w12 = (w10.alloc (.cells #[.int .i64 0, .int .i64 0] 27)).alloc (.cells #[.int .i64 0, .int .i64 0] 27) := ⟨_, rfl⟩
      obtain ⟨XB, hXB⟩ : ∃ XB, XB = w10.heap.size := ⟨_, rfl⟩
      have hx : w12.heap[XB]? = some (.cells #[.int .i64 0, .int .i64 0] 27 (0, 0)) := by
        rw [hw12, alloc_lt (by rw [alloc_size, hXB]; omega)]; exact alloc_at hXB
      have hy : w12.heap[XB + 1]? = some (.cells #[.int .i64 0, .int .i64 0] 27 (0, 0)) := by
        rw [hw12]; exact alloc_at (by rw [alloc_size, hXB])
      have hb12 : Below wr.heap.size wr w12 := by
        rw [hw12]; exact (HB10.out.alloc HB10.out.size _).alloc (by rw [alloc_size]; have := HB10.out.size; omega) _
      rw [← hw12, ← hXB]
      have hv3 : w12.cell? ⟨LN, i, none⟩ = some v := bcell hb12 hv2
      have c0 := (HP9.out w12 (HBX.out.trans (hb12.mono HBX.out.size))).1
      have x0 : w12.cell? ⟨XB, 0, none⟩ = some (.int .i64 0) := cell_row hx 0
      have x1 : w12.cell? ⟨XB, 1, none⟩ = some (.int .i64 0) := cell_row hx 1
      have y0 : w12.cell? ⟨XB + 1, 0, none⟩ = some (.int .i64 0) := cell_row hy 0
      have y1 : w12.cell? ⟨XB + 1, 1, none⟩ = some (.int .i64 0) := cell_row hy 1
      have HB12d := Lib.hid hb12.drew; have HC12 : Hid ((fun w' => w'.cell? ⟨LN, i, none⟩ = some v ∧ w'.cell? ⟨PB, 0, none⟩ = some (Pw X.wB) ∧ w'.cell? ⟨XB, 0, none⟩ = some (.int .i64 0) ∧ w'.cell? ⟨XB, 1, none⟩ = some (.int .i64 0) ∧ w'.cell? ⟨XB + 1, 0, none⟩ = some (.int .i64 0) ∧ w'.cell? ⟨XB + 1, 1, none⟩ = some (.int .i64 0)) w12.drew) := Lib.hid ⟨hv3, c0, x0, x1, y0, y1⟩; have HB12 := Lib.hid (HBX.out.trans (hb12.mono HBX.out.size)); have HIN := Lib.hid hin
      clear hw12 hXB hx hy hb12 hv2 HB10 HBX HV hin hv3 c0 x0 x1 y0 y1
      refine wp_region_held_drew (S := fun w' => w'.cell? ⟨LN, i, none⟩ = some v ∧ w'.cell? ⟨PB, 0, none⟩ = some (Pw X.wB) ∧ w'.cell? ⟨XB, 0, none⟩ = some (.int .i64 0) ∧ w'.cell? ⟨XB, 1, none⟩ = some (.int .i64 0) ∧ w'.cell? ⟨XB + 1, 0, none⟩ = some (.int .i64 0) ∧ w'.cell? ⟨XB + 1, 1, none⟩ = some (.int .i64 0)) (by kernel_rfl) ?_ (fun hHeld => ?_)
      · exact HC12.out
      refine tA 0 ⟨some 47, .move (.tmp 11), 81, "law.go:97", #[], none⟩ ?vrbm1 ?rrbm1
      (try simp only [Act.put, tC, tD, tE])
      refine tA 1 ⟨some 48, .move (.tmp 12), 3, "law.go:97", #[], none⟩ ?vrbm2 ?rrbm2
      (try simp only [Act.put, tC, tD, tE])
      refine tA 2 ⟨some 49, .indexAddr 81 (.tmp 47) (.tmp 48), 0, "law.go:97", #[⟨0, .data⟩, ⟨1, .data⟩], none⟩ ?vrbm3 ?rrbm3
      (try simp only [Act.put, tC, tD, tE])
      refine tA 3 ⟨some 50, .load 80 (.tmp 49), 80, "law.go:97", #[⟨2, .data⟩], none⟩ ?vrbm4 ?rrbm4
      (try simp only [Act.put, tC, tD, tE])
      refine wpAnyH_ready (rs := [4]) (by kernel_rfl) (by simp) ?_
      refine AllReadyH.cons (o := ⟨some 51, .call ⟨.value (.func 25), #[.tmp 50], #[80]⟩, 4, "law.go:97", #[⟨3, .data⟩], none⟩) rfl (fun Kq hKq => ?_) AllReadyH.nil
      go_simp
      (refine (HVP.out _ HB12d.out).2.1.mono ?_; rintro e w13 ⟨rfl, rfl⟩)
      refine hKq.out _ _ ?_ (fun hHeld => ?_)
      · exact hHeld
      clear hKq Kq
      (try simp only [Act.put, tC, tD, tE])
      refine tA 5 ⟨some 52, .unOp .not 4 (.tmp 51), 4, "law.go:97", #[⟨4, .data⟩], none⟩ ?vrbm5 ?rrbm5
      (try simp only [Act.put, tC, tD, tE])
      refine tA 6 ⟨some 53, .move (.tmp 52), 4, "law.go:97", #[⟨5, .data⟩, ⟨4, .chain⟩], none⟩ ?vrbm6 ?rrbm6
      (try simp only [Act.put, tC, tD, tE])
      refine tA 7 ⟨some 54, .move (.tmp 11), 81, "law.go:97", #[⟨6, .guard⟩], some (6, false)⟩ ?vrbm7 ?rrbm7
      (try simp only [Act.put, tC, tD, tE])
      refine tA 8 ⟨some 55, .move (.tmp 12), 3, "law.go:97", #[⟨6, .guard⟩], some (6, false)⟩ ?vrbm8 ?rrbm8
      (try simp only [Act.put, tC, tD, tE])
      refine tA 9 ⟨some 56, .indexAddr 81 (.tmp 54) (.tmp 55), 0, "law.go:97", #[⟨7, .data⟩, ⟨8, .data⟩, ⟨6, .guard⟩], some (6, false)⟩ ?vrbm9 ?rrbm9
      (try simp only [Act.put, tC, tD, tE])
      refine tA 10 ⟨some 57, .load 80 (.tmp 56), 80, "law.go:97", #[⟨9, .data⟩, ⟨6, .guard⟩], some (6, false)⟩ ?vrbm10 ?rrbm10
      (try simp only [Act.put, tC, tD, tE])
      refine tA 11 ⟨some 58, .fieldAddr 38 (.tmp 7) 0, 0, "law.go:97", #[⟨6, .guard⟩], some (6, false)⟩ ?vrbm11 ?rrbm11
      (try simp only [Act.put, tC, tD, tE])
      refine tA 12 ⟨some 59, .load 35 (.tmp 58), 35, "law.go:97", #[⟨11, .data⟩, ⟨6, .guard⟩], some (6, false)⟩ ?vrbm12 ?rrbm12
      (try simp only [Act.put, tC, tD, tE])
      refine wpAnyH_ready (rs := [13]) (by kernel_rfl) (by simp) ?_
      refine AllReadyH.cons (o := ⟨some 60, .call ⟨.value (.func 26), #[.tmp 57, .tmp 59], #[80, 35]⟩, 4, "law.go:97", #[⟨10, .data⟩, ⟨12, .data⟩, ⟨6, .chain⟩, ⟨6, .guard⟩], some (6, false)⟩) rfl (fun Kq hKq => ?_) AllReadyH.nil
      go_simp
      (refine ((HVP.out _ HB12d.out).2.2 _).mono ?_; rintro e w13 ⟨rfl, rfl⟩)
      refine hKq.out _ _ ?_ (fun hHeld => ?_)
      · exact hHeld
      clear hKq Kq
      (try simp only [Act.put, tC, tD, tE])
      refine tA 14 ⟨some 61, .unOp .not 4 (.tmp 60), 4, "law.go:97", #[⟨13, .data⟩, ⟨6, .guard⟩], some (6, false)⟩ ?vrbm13 ?rrbm13
      (try simp only [Act.put, tC, tD, tE])
      refine tA 15 ⟨some 62, .pick (.tmp 53) (.const (.bool true)) (.tmp 61), 4, "law.go:97", #[⟨6, .data⟩, ⟨14, .data⟩], none⟩ ?vrbm14 ?rrbm14
      (try simp only [Act.put, tC, tD, tE])
      refine tA 16 ⟨some 63, .move (.tmp 62), 4, "law.go:97", #[⟨15, .data⟩, ⟨13, .chain⟩], none⟩ ?vrbm15 ?rrbm15
      (try simp only [Act.put, tC, tD, tE])
      refine tA 17 ⟨some 64, .load 27 (.tmp 13), 27, "law.go:97", #[⟨16, .guard⟩], some (16, false)⟩ ?vrbm16 ?rrbm16
      (try simp only [Act.put, tC, tD, tE])
      refine tA 18 ⟨some 65, .build 27 #[], 27, "law.go:97", #[⟨16, .guard⟩], some (16, false)⟩ ?vrbm17 ?rrbm17
      (try simp only [Act.put, tC, tD, tE])
      refine tA 19 ⟨some 66, .binOp .neq 27 (.tmp 64) (.tmp 65) 27, 4, "law.go:97", #[⟨17, .data⟩, ⟨18, .data⟩, ⟨16, .guard⟩], some (16, false)⟩ ?vrbm18 ?rrbm18
      (try simp only [Act.put, tC, tD, tE])
      refine tA 20 ⟨some 67, .pick (.tmp 63) (.const (.bool true)) (.tmp 66), 4, "law.go:97", #[⟨16, .data⟩, ⟨19, .data⟩], none⟩ ?vrbm19 ?rrbm19
      (try simp only [Act.put, tC, tD, tE])
      refine tA 21 ⟨some 68, .move (.tmp 67), 4, "law.go:97", #[⟨20, .data⟩, ⟨16, .chain⟩], none⟩ ?vrbm20 ?rrbm20
      (try simp only [Act.put, tC, tD, tE])
      refine tA 22 ⟨some 69, .load 27 (.tmp 14), 27, "law.go:97", #[⟨21, .guard⟩], some (21, false)⟩ ?vrbm21 ?rrbm21
      (try simp only [Act.put, tC, tD, tE])
      refine tA 23 ⟨some 70, .load 27 (.tmp 13), 27, "law.go:97", #[⟨21, .guard⟩], some (21, false)⟩ ?vrbm22 ?rrbm22
      (try simp only [Act.put, tC, tD, tE])
      refine tA 24 ⟨some 71, .binOp .neq 27 (.tmp 69) (.tmp 70) 27, 4, "law.go:97", #[⟨22, .data⟩, ⟨23, .data⟩, ⟨21, .guard⟩], some (21, false)⟩ ?vrbm23 ?rrbm23
      (try simp only [Act.put, tC, tD, tE])
      refine tA 25 ⟨some 72, .pick (.tmp 68) (.const (.bool true)) (.tmp 71), 4, "law.go:97", #[⟨21, .data⟩, ⟨24, .data⟩], none⟩ ?vrbm24 ?rrbm24
      (try simp only [Act.put, tC, tD, tE])
      refine wpAnyH_done (by kernel_rfl) ?_ _
      clear hHeld
      go_wp2_with fail
      go_roundg (3 - (i + 1))
      case measure => have := HIN.out; omega
      case rel => exact ⟨i + 1, by have := HIN.out; omega, rfl, by go_num, HB12.out.drew⟩
    · obtain rfl : i = 3 := by omega
      have HBX := Lib.hid hbx
      clear hbx hin hi
      go_upto_region 15 with (go_at_call 23; refine (HNP.out _).mono ?_; rintro e w20 ⟨v, rfl, hnp⟩)
      obtain ⟨PB2, XC, TC, LC, rfl, hok, hb20, _⟩ := hnp
      have q20 := hok.1 _ (List.mem_cons_self ..)
      have HQ20 := Lib.hid q20; have HB20 := Lib.hid hb20
      clear hok hb20 q20
      go_upto_region 16 with (go_at_call 27; refine (HNA.out _).mono ?_; rintro e w21 ⟨AB2, P2, c2, rfl, hb21, ha21⟩; have HB21 := Lib.hid hb21; have HA21 := Lib.hid ha21; clear hb21 ha21)
      have hb6 : Below w6.heap.size w6 w21 := ((HB9.out.trans (HBX.out.mono HB9.out.size)).trans (HB20.out.mono (Nat.le_trans HB9.out.size HBX.out.size))).trans (HB21.out.mono (Nat.le_trans (Nat.le_trans HB9.out.size HBX.out.size) HB20.out.size))
      have hbg := HB6.out.new hb6
      have hall := pair_all hbg (by omega) (by omega)
      have c0 : w21.cell? ⟨PB, 0, none⟩ = some (Pw X.wB) := bcell hb6 (cell_row HP6.out 0)
      have c1 : w21.cell? ⟨PB, 1, none⟩ = some (Pw Y.wB) := bcell hb6 (cell_row HP6.out 1)
      have a0 : w21.cell? ⟨AX, 0, none⟩ = some (.slice none 0 0) := bcell hb6 (cell_row HA6.out 0)
      have b0 : w21.cell? ⟨PB2, 6, none⟩ = some (.slice (some ⟨LC, 0, none⟩) (0 + 1) 1) := bcell HB21.out (cell_row HQ20.out 6)
      have h1 := aover_cell a0
      rw [decide_eq_true rfl] at h1
      have h2 := over_cell b0
      rw [decide_eq_false (by omega)] at h2
      have h3 := aover_cell HA21.out
      rw [decide_eq_false (by omega)] at h3
      have H1 := Lib.hid h1; have H2 := Lib.hid h2; have H3 := Lib.hid h3
      have H4 := Lib.hid (fun u => astep_void a0 u); have H5 := Lib.hid (pstep_still b0); have H6 := Lib.hid (astep_still HA21.out)
      have H7 := Lib.hid (aover_nil w21); have H8 := Lib.hid (fun u => astep_nilp u w21)
      have HAL := Lib.hid hall; have HBW := Lib.hid (HB6.out.bl.trans (hb6.mono HB6.out.bl.size))
      clear h1 h2 h3 a0 b0 hbg hall hb6 HQ20 HB20 HB21 HA21 HBX HNP HNA HEL HP9 HB9 HB6 HP6 HV6 HA6 HQ6
      go_wp2_with (first
        | (go_at_call 28; (with_reducible refine H1.out.mono ?_); rintro e w6 ⟨rfl, rfl⟩)
        | (go_at_call 28; (with_reducible refine H7.out.mono ?_); rintro e w6 ⟨rfl, rfl⟩)
        | (go_at_call 28; (with_reducible refine H3.out.mono ?_); rintro e w6 ⟨rfl, rfl⟩)
        | (go_at_call 29; (with_reducible refine (H4.out _).mono ?_); rintro e w6 ⟨rfl, rfl⟩)
        | (go_at_call 29; (with_reducible refine (H8.out _).mono ?_); rintro e w6 ⟨rfl, rfl⟩)
        | (go_at_call 29; (with_reducible refine H6.out.mono ?_); rintro e w6 ⟨rfl, rfl⟩)
        | (go_at_call 25; (with_reducible refine H2.out.mono ?_); rintro e w6 ⟨rfl, rfl⟩)
        | (go_at_call 26; (with_reducible refine H5.out.mono ?_); rintro e w6 ⟨rfl, rfl⟩)
        | (go_at_call 21; refine HAL.out.mono ?_; rintro e w7 ⟨rfl, hb7⟩; have HB7 := Lib.hid hb7; clear hb7)
        | (go_at_call 30; refine (HLV.out _).mono ?_; rintro e w8 ⟨rfl, hb8⟩; have HB8 := Lib.hid hb8; clear hb8))
      go_ret
      exact ⟨rfl, (HBW.out.trans (HB7.out.mono HBW.out.size)).trans (HB8.out.mono (Nat.le_trans HBW.out.size HB7.out.size))⟩
theorem law_void_thread (t : Int) (a b : Nat) (ht : 0 ≤ t ∧ t < 64) (w : World) : Calls Tryz.prog 4 #[.int .i64 t, .int .u32 (a : Int), .int .u32 (b : Int)] w fun e w' => e = .returned (.bool true) ∧ Below w.heap.size w w' := by
  have HBG := Lib.hid (begin_v w)
  have HLV := Lib.hid (fun W => lives16 W)
  have HNP : Hid (∀ W, Calls Tryz.prog 23 #[.int .i64 1, .int .u32 (a : Int), .int .u32 (b : Int)] W fun e w' => ∃ v, e = .returned v ∧ NewPr W w' 1 a b v) := Lib.hid (fun W => new_pair (t := 1) (by omega) W)
  obtain ⟨L1, hz1⟩ : ∃ L : Nat, S10.lockZ 2 0 = (L : Int) := ⟨260, by decide⟩
  obtain ⟨L2, hz2⟩ : ∃ L : Nat, S10.lockZ 2 1 = (L : Int) := ⟨261, by decide⟩
  have HNA := Lib.hid (fun W => apart_bel hz1 hz2 (by decide) W)
  have d1 : decide (t < 0) = false := decide_eq_false (by omega)
  have d2 : decide (64 ≤ t) = false := decide_eq_false (by omega)
  have heq : ∀ W : World, (binOp .neq 27 (.agg #[.int .i64 0, .int .i64 0]) (.agg #[.int .i64 0, .int .i64 0])).run Tryz.prog W = .ok (.bool false) W := fun W => neqS 0 0 W
  clear ht hz1 hz2
  go_enter Tryz.func4, Tryz.ntmps4
  go_upto_region 6 with (go_at_call 12; refine HBG.out.mono ?_; rintro e w2 ⟨M, X, Y, rfl, hbg⟩)
  obtain ⟨w3, hw3⟩ : ∃ w3, w3 = w2.alloc (.cells #[Pw X.wB, Pw Y.wB] 38) := ⟨_, rfl⟩
  obtain ⟨w4, hw4⟩ : ∃ w4, w4 = w3.alloc (.cells #[.int .u32 0, .int .u32 0, .int .i64 0, .int .i64 0, .int .i64 0, .int .i64 0, .slice none 0 0] 76) := ⟨_, rfl⟩
  obtain ⟨w5, hw5⟩ : ∃ w5, w5 = w4.alloc (.cells #[.slice none 0 0] 78) := ⟨_, rfl⟩
  obtain ⟨w6, hw6⟩ : ∃ w6, w6 = w5.alloc (.cells #[.pointer none, Pw w3.heap.size] 80) := ⟨_, rfl⟩
  have z3 : w3.heap.size = w2.heap.size + 1 := by rw [hw3]; simp
  have z4 : w4.heap.size = w2.heap.size + 1 + 1 := by rw [hw4, alloc_size, z3]
  have z5 : w5.heap.size = w2.heap.size + 1 + 1 + 1 := by rw [hw5, alloc_size, z4]
  have b3 : Below w2.heap.size w2 w3 := by rw [hw3]; exact below1 _ _
  have b4 : Below w3.heap.size w3 w4 := by rw [hw4]; exact below1 _ _
  have b5 : Below w4.heap.size w4 w5 := by rw [hw5]; exact below1 _ _
  have b6 : Below w5.heap.size w5 w6 := by rw [hw6]; exact below1 _ _
  have q3 : w3.heap[w2.heap.size]? = some (.cells #[Pw X.wB, Pw Y.wB] 38 (0, 0)) := by rw [hw3]; exact heap_alloc_new _ _
  have q4 : w4.heap[w3.heap.size]? = some (.cells (pairC 0 0 0 0 0 0 (.slice none 0 0)) 76 (0, 0)) := by rw [hw4]; exact heap_alloc_new _ _
  have q5 : w5.heap[w4.heap.size]? = some (.cells #[.slice none 0 0] 78 (0, 0)) := by rw [hw5]; exact heap_alloc_new _ _
  have q6 : w6.heap[w5.heap.size]? = some (.cells #[.pointer none, Pw w3.heap.size] 80 (0, 0)) := by rw [hw6]; exact heap_alloc_new _ _
  have p6 := (b6.block _ (heap_lt ((b5.block _ (heap_lt ((b4.block _ (heap_lt q3)).trans q3))).trans ((b4.block _ (heap_lt q3)).trans q3)))).trans ((b5.block _ (heap_lt ((b4.block _ (heap_lt q3)).trans q3))).trans ((b4.block _ (heap_lt q3)).trans q3))
  have v6 := (b6.block _ (heap_lt ((b5.block _ (heap_lt q4)).trans q4))).trans ((b5.block _ (heap_lt q4)).trans q4)
  have a6 := (b6.block _ (heap_lt q5)).trans q5
  have hbg6 := (((hbg.new b3).new b4).new b5).new b6
  have e6 : (((w2.alloc (.cells #[Pw X.wB, Pw Y.wB] 38)).alloc (.cells #[.int .u32 0, .int .u32 0, .int .i64 0, .int .i64 0, .int .i64 0, .int .i64 0, .slice none 0 0] 76)).alloc (.cells #[.slice none 0 0] 78)).alloc (.cells #[.pointer none, Pw (w2.heap.size + 1)] 80) = w6 := by rw [hw6, hw5, hw4, ← hw3, z3]
  rw [e6]
  have HB6 := Lib.hid hbg6; have HP6 := Lib.hid p6; have HV6 := Lib.hid v6; have HA6 := Lib.hid a6; have HQ6 := Lib.hid q6; have HZ := Lib.hid (And.intro z3 (And.intro z4 z5))
  clear hw3 hw4 hw5 hw6 z3 z4 z5 b3 b4 b5 b6 q3 q4 q5 q6 p6 v6 a6 hbg6 hbg e6 HBG
  rw [HZ.out.1] at HV6 HQ6
  rw [HZ.out.2.1] at HA6
  rw [HZ.out.2.2] at HQ6
  clear HZ
  generalize w2.heap.size = PB at *
  generalize PB + 1 = PX at *
  generalize PX + 1 = AX at *
  generalize AX + 1 = LB at *
  clear w3 w4 w5
  go_upto_region 8 with (fail)
  obtain ⟨w9, hw9⟩ : ∃ w9, w9 = w6 := ⟨_, rfl⟩
  have hel : ∀ i : Nat, i < 2 → ∃ v, w9.cell? ⟨LB, i, none⟩ = some v ∧ VP w9 v := fun i hi => by
    rw [hw9]
    rcases (show i = 0 ∨ i = 1 by omega) with rfl | rfl
    · exact ⟨_, cell_row HQ6.out 0, vp_nil w6⟩
    · exact ⟨_, cell_row HQ6.out 1, vp_blk HV6.out⟩
  have HEL := Lib.hid hel; have HB9 : Hid (Below w6.heap.size w6 w9) := Lib.hid (by rw [hw9]; exact Below.refl _ _)
  rw [← hw9]
  clear hel hw9
  obtain ⟨LN, hLN⟩ : ∃ LN, LN = LB := ⟨_, rfl⟩
  rw [← hLN] at HEL ⊢
  clear hLN
  have hp9 : ∀ W, Below w9.heap.size w9 W → W.cell? ⟨PB, 0, none⟩ = some (Pw X.wB) ∧ W.cell? ⟨PB, 1, none⟩ = some (Pw Y.wB) := fun W hW => ⟨bcell (HB9.out.trans (hW.mono HB9.out.size)) (cell_row HP6.out 0), bcell (HB9.out.trans (hW.mono HB9.out.size)) (cell_row HP6.out 1)⟩
  have HP9 := Lib.hid hp9
  clear hp9
  go_wp2_with fail
  go_loopg [12, 13, 14] 2 (fun q s12 s13 s14 wx => ∃ i : Nat, i ≤ 2 ∧ q = 2 - i ∧ s12 = .int .i64 (i : Int) ∧ Below w9.heap.size w9 wx)
  case atStart => exact ⟨0, by omega, rfl, rfl, Below.refl _ _⟩
  case round =>
    obtain ⟨i, hi, rfl, rfl, hbx⟩ := hrel
    by_cases hin : i < 2
    · obtain ⟨v, hv, hvp⟩ := HEL.out i hin
      have hv2 : wr.cell? ⟨LN, i, none⟩ = some v := bcell hbx hv
      have hi5 : (i : Int) < 2 := by omega
      have d4 : decide ((i : Int) < 2) = true := decide_eq_true hi5
      have HVP := Lib.hid (hvp.new hbx); have HBX := Lib.hid hbx; have HV := Lib.hid hv
      clear hbx hvp hv
      go_upto_region 12 with (go_at_call 24; refine (HVP.out _ (Below.refl _ _)).1.mono ?_; rintro e w10 ⟨rfl, hb10⟩; have HB10 := Lib.hid hb10; clear hb10)
      obtain ⟨w12, hw12⟩ : ∃ w12, w12 = (w10.alloc (.cells #[.int .i64 0, .int .i64 0] 27)).alloc (.cells #[.int .i64 0, .int .i64 0] 27) := ⟨_, rfl⟩
      obtain ⟨XB, hXB⟩ : ∃ XB, XB = w10.heap.size := ⟨_, rfl⟩
      have hx : w12.heap[XB]? = some (.cells #[.int .i64 0, .int .i64 0] 27 (0, 0)) := by
        rw [hw12, alloc_lt (by rw [alloc_size, hXB]; omega)]; exact alloc_at hXB
      have hy : w12.heap[XB + 1]? = some (.cells #[.int .i64 0, .int .i64 0] 27 (0, 0)) := by
        rw [hw12]; exact alloc_at (by rw [alloc_size, hXB])
      have hb12 : Below wr.heap.size wr w12 := by
        rw [hw12]; exact (HB10.out.alloc HB10.out.size _).alloc (by rw [alloc_size]; have := HB10.out.size; omega) _
      rw [← hw12, ← hXB]
      have hv3 : w12.cell? ⟨LN, i, none⟩ = some v := bcell hb12 hv2
      have c0 := (HP9.out w12 (HBX.out.trans (hb12.mono HBX.out.size))).1
      have x0 : w12.cell? ⟨XB, 0, none⟩ = some (.int .i64 0) := cell_row hx 0
      have x1 : w12.cell? ⟨XB, 1, none⟩ = some (.int .i64 0) := cell_row hx 1
      have y0 : w12.cell? ⟨XB + 1, 0, none⟩ = some (.int .i64 0) := cell_row hy 0
      have y1 : w12.cell? ⟨XB + 1, 1, none⟩ = some (.int .i64 0) := cell_row hy 1
      have HB12d := Lib.hid hb12.drew; have HC12 : Hid ((fun w' => w'.cell? ⟨LN, i, none⟩ = some v ∧ w'.cell? ⟨PB, 0, none⟩ = some (Pw X.wB) ∧ w'.cell? ⟨XB, 0, none⟩ = some (.int .i64 0) ∧ w'.cell? ⟨XB, 1, none⟩ = some (.int .i64 0) ∧ w'.cell? ⟨XB + 1, 0, none⟩ = some (.int .i64 0) ∧ w'.cell? ⟨XB + 1, 1, none⟩ = some (.int .i64 0)) w12.drew) := Lib.hid ⟨hv3, c0, x0, x1, y0, y1⟩; have HB12 := Lib.hid (HBX.out.trans (hb12.mono HBX.out.size)); have HIN := Lib.hid hin
      clear hw12 hXB hx hy hb12 hv2 HB10 HBX HV hin hv3 c0 x0 x1 y0 y1
      refine wp_region_held_drew (S := fun w' => w'.cell? ⟨LN, i, none⟩ = some v ∧ w'.cell? ⟨PB, 0, none⟩ = some (Pw X.wB) ∧ w'.cell? ⟨XB, 0, none⟩ = some (.int .i64 0) ∧ w'.cell? ⟨XB, 1, none⟩ = some (.int .i64 0) ∧ w'.cell? ⟨XB + 1, 0, none⟩ = some (.int .i64 0) ∧ w'.cell? ⟨XB + 1, 1, none⟩ = some (.int .i64 0)) (by kernel_rfl) ?_ (fun hHeld => ?_)
      · exact HC12.out
      refine tA 0 ⟨some 47, .move (.tmp 11), 81, "law.go:97", #[], none⟩ ?vrtm1 ?rrtm1
      (try simp only [Act.put, tC, tD, tE])
      refine tA 1 ⟨some 48, .move (.tmp 12), 3, "law.go:97", #[], none⟩ ?vrtm2 ?rrtm2
      (try simp only [Act.put, tC, tD, tE])
      refine tA 2 ⟨some 49, .indexAddr 81 (.tmp 47) (.tmp 48), 0, "law.go:97", #[⟨0, .data⟩, ⟨1, .data⟩], none⟩ ?vrtm3 ?rrtm3
      (try simp only [Act.put, tC, tD, tE])
      refine tA 3 ⟨some 50, .load 80 (.tmp 49), 80, "law.go:97", #[⟨2, .data⟩], none⟩ ?vrtm4 ?rrtm4
      (try simp only [Act.put, tC, tD, tE])
      refine wpAnyH_ready (rs := [4]) (by kernel_rfl) (by simp) ?_
      refine AllReadyH.cons (o := ⟨some 51, .call ⟨.value (.func 25), #[.tmp 50], #[80]⟩, 4, "law.go:97", #[⟨3, .data⟩], none⟩) rfl (fun Kq hKq => ?_) AllReadyH.nil
      go_simp
      (refine (HVP.out _ HB12d.out).2.1.mono ?_; rintro e w13 ⟨rfl, rfl⟩)
      refine hKq.out _ _ ?_ (fun hHeld => ?_)
      · exact hHeld
      clear hKq Kq
      (try simp only [Act.put, tC, tD, tE])
      refine tA 5 ⟨some 52, .unOp .not 4 (.tmp 51), 4, "law.go:97", #[⟨4, .data⟩], none⟩ ?vrtm5 ?rrtm5
      (try simp only [Act.put, tC, tD, tE])
      refine tA 6 ⟨some 53, .move (.tmp 52), 4, "law.go:97", #[⟨5, .data⟩, ⟨4, .chain⟩], none⟩ ?vrtm6 ?rrtm6
      (try simp only [Act.put, tC, tD, tE])
      refine tA 7 ⟨some 54, .move (.tmp 11), 81, "law.go:97", #[⟨6, .guard⟩], some (6, false)⟩ ?vrtm7 ?rrtm7
      (try simp only [Act.put, tC, tD, tE])
      refine tA 8 ⟨some 55, .move (.tmp 12), 3, "law.go:97", #[⟨6, .guard⟩], some (6, false)⟩ ?vrtm8 ?rrtm8
      (try simp only [Act.put, tC, tD, tE])
      refine tA 9 ⟨some 56, .indexAddr 81 (.tmp 54) (.tmp 55), 0, "law.go:97", #[⟨7, .data⟩, ⟨8, .data⟩, ⟨6, .guard⟩], some (6, false)⟩ ?vrtm9 ?rrtm9
      (try simp only [Act.put, tC, tD, tE])
      refine tA 10 ⟨some 57, .load 80 (.tmp 56), 80, "law.go:97", #[⟨9, .data⟩, ⟨6, .guard⟩], some (6, false)⟩ ?vrtm10 ?rrtm10
      (try simp only [Act.put, tC, tD, tE])
      refine tA 11 ⟨some 58, .fieldAddr 38 (.tmp 7) 0, 0, "law.go:97", #[⟨6, .guard⟩], some (6, false)⟩ ?vrtm11 ?rrtm11
      (try simp only [Act.put, tC, tD, tE])
      refine tA 12 ⟨some 59, .load 35 (.tmp 58), 35, "law.go:97", #[⟨11, .data⟩, ⟨6, .guard⟩], some (6, false)⟩ ?vrtm12 ?rrtm12
      (try simp only [Act.put, tC, tD, tE])
      refine wpAnyH_ready (rs := [13]) (by kernel_rfl) (by simp) ?_
      refine AllReadyH.cons (o := ⟨some 60, .call ⟨.value (.func 26), #[.tmp 57, .tmp 59], #[80, 35]⟩, 4, "law.go:97", #[⟨10, .data⟩, ⟨12, .data⟩, ⟨6, .chain⟩, ⟨6, .guard⟩], some (6, false)⟩) rfl (fun Kq hKq => ?_) AllReadyH.nil
      go_simp
      (refine ((HVP.out _ HB12d.out).2.2 _).mono ?_; rintro e w13 ⟨rfl, rfl⟩)
      refine hKq.out _ _ ?_ (fun hHeld => ?_)
      · exact hHeld
      clear hKq Kq
      (try simp only [Act.put, tC, tD, tE])
      refine tA 14 ⟨some 61, .unOp .not 4 (.tmp 60), 4, "law.go:97", #[⟨13, .data⟩, ⟨6, .guard⟩], some (6, false)⟩ ?vrtm13 ?rrtm13
      (try simp only [Act.put, tC, tD, tE])
      refine tA 15 ⟨some 62, .pick (.tmp 53) (.const (.bool true)) (.tmp 61), 4, "law.go:97", #[⟨6, .data⟩, ⟨14, .data⟩], none⟩ ?vrtm14 ?rrtm14
      (try simp only [Act.put, tC, tD, tE])
      refine tA 16 ⟨some 63, .move (.tmp 62), 4, "law.go:97", #[⟨15, .data⟩, ⟨13, .chain⟩], none⟩ ?vrtm15 ?rrtm15
      (try simp only [Act.put, tC, tD, tE])
      refine tA 17 ⟨some 64, .load 27 (.tmp 13), 27, "law.go:97", #[⟨16, .guard⟩], some (16, false)⟩ ?vrtm16 ?rrtm16
      (try simp only [Act.put, tC, tD, tE])
      refine tA 18 ⟨some 65, .build 27 #[], 27, "law.go:97", #[⟨16, .guard⟩], some (16, false)⟩ ?vrtm17 ?rrtm17
      (try simp only [Act.put, tC, tD, tE])
      refine tA 19 ⟨some 66, .binOp .neq 27 (.tmp 64) (.tmp 65) 27, 4, "law.go:97", #[⟨17, .data⟩, ⟨18, .data⟩, ⟨16, .guard⟩], some (16, false)⟩ ?vrtm18 ?rrtm18
      (try simp only [Act.put, tC, tD, tE])
      refine tA 20 ⟨some 67, .pick (.tmp 63) (.const (.bool true)) (.tmp 66), 4, "law.go:97", #[⟨16, .data⟩, ⟨19, .data⟩], none⟩ ?vrtm19 ?rrtm19
      (try simp only [Act.put, tC, tD, tE])
      refine tA 21 ⟨some 68, .move (.tmp 67), 4, "law.go:97", #[⟨20, .data⟩, ⟨16, .chain⟩], none⟩ ?vrtm20 ?rrtm20
      (try simp only [Act.put, tC, tD, tE])
      refine tA 22 ⟨some 69, .load 27 (.tmp 14), 27, "law.go:97", #[⟨21, .guard⟩], some (21, false)⟩ ?vrtm21 ?rrtm21
      (try simp only [Act.put, tC, tD, tE])
      refine tA 23 ⟨some 70, .load 27 (.tmp 13), 27, "law.go:97", #[⟨21, .guard⟩], some (21, false)⟩ ?vrtm22 ?rrtm22
      (try simp only [Act.put, tC, tD, tE])
      refine tA 24 ⟨some 71, .binOp .neq 27 (.tmp 69) (.tmp 70) 27, 4, "law.go:97", #[⟨22, .data⟩, ⟨23, .data⟩, ⟨21, .guard⟩], some (21, false)⟩ ?vrtm23 ?rrtm23
      (try simp only [Act.put, tC, tD, tE])
      refine tA 25 ⟨some 72, .pick (.tmp 68) (.const (.bool true)) (.tmp 71), 4, "law.go:97", #[⟨21, .data⟩, ⟨24, .data⟩], none⟩ ?vrtm24 ?rrtm24
      (try simp only [Act.put, tC, tD, tE])
      refine wpAnyH_done (by kernel_rfl) ?_ _
      clear hHeld
      go_wp2_with fail
      go_roundg (2 - (i + 1))
      case measure => have := HIN.out; omega
      case rel => exact ⟨i + 1, by have := HIN.out; omega, rfl, by go_num, HB12.out.drew⟩
    · obtain rfl : i = 2 := by omega
      have HBX := Lib.hid hbx
      clear hbx hin hi
      go_upto_region 15 with (go_at_call 23; refine (HNP.out _).mono ?_; rintro e w20 ⟨v, rfl, hnp⟩)
      obtain ⟨PB2, XC, TC, LC, rfl, hok, hb20, _⟩ := hnp
      have q20 := hok.1 _ (List.mem_cons_self ..)
      have HQ20 := Lib.hid q20; have HB20 := Lib.hid hb20
      clear hok hb20 q20
      go_upto_region 16 with (go_at_call 27; refine (HNA.out _).mono ?_; rintro e w21 ⟨AB2, P2, c2, rfl, hb21, ha21⟩; have HB21 := Lib.hid hb21; have HA21 := Lib.hid ha21; clear hb21 ha21)
      have hb6 : Below w6.heap.size w6 w21 := ((HB9.out.trans (HBX.out.mono HB9.out.size)).trans (HB20.out.mono (Nat.le_trans HB9.out.size HBX.out.size))).trans (HB21.out.mono (Nat.le_trans (Nat.le_trans HB9.out.size HBX.out.size) HB20.out.size))
      have hbg := HB6.out.new hb6
      have hall := pair_all hbg (by omega) (by omega)
      have c0 : w21.cell? ⟨PB, 0, none⟩ = some (Pw X.wB) := bcell hb6 (cell_row HP6.out 0)
      have c1 : w21.cell? ⟨PB, 1, none⟩ = some (Pw Y.wB) := bcell hb6 (cell_row HP6.out 1)
      have a0 : w21.cell? ⟨AX, 0, none⟩ = some (.slice none 0 0) := bcell hb6 (cell_row HA6.out 0)
      have b0 : w21.cell? ⟨PB2, 6, none⟩ = some (.slice (some ⟨LC, 0, none⟩) (0 + 1) 1) := bcell HB21.out (cell_row HQ20.out 6)
      have h1 := aover_cell a0
      rw [decide_eq_true rfl] at h1
      have h2 := over_cell b0
      rw [decide_eq_false (by omega)] at h2
      have h3 := aover_cell HA21.out
      rw [decide_eq_false (by omega)] at h3
      have H1 := Lib.hid h1; have H2 := Lib.hid h2; have H3 := Lib.hid h3
      have H4 := Lib.hid (fun u => astep_void a0 u); have H5 := Lib.hid (pstep_still b0); have H6 := Lib.hid (astep_still HA21.out)
      have H7 := Lib.hid (aover_nil w21); have H8 := Lib.hid (fun u => astep_nilp u w21)
      have HAL := Lib.hid hall; have HBW := Lib.hid (HB6.out.bl.trans (hb6.mono HB6.out.bl.size))
      clear h1 h2 h3 a0 b0 hbg hall hb6 HQ20 HB20 HB21 HA21 HBX HNP HNA HEL HP9 HB9 HB6 HP6 HV6 HA6 HQ6
      go_wp2_with (first
        | (go_at_call 28; (with_reducible refine H1.out.mono ?_); rintro e w6 ⟨rfl, rfl⟩)
        | (go_at_call 28; (with_reducible refine H7.out.mono ?_); rintro e w6 ⟨rfl, rfl⟩)
        | (go_at_call 28; (with_reducible refine H3.out.mono ?_); rintro e w6 ⟨rfl, rfl⟩)
        | (go_at_call 29; (with_reducible refine (H4.out _).mono ?_); rintro e w6 ⟨rfl, rfl⟩)
        | (go_at_call 29; (with_reducible refine (H8.out _).mono ?_); rintro e w6 ⟨rfl, rfl⟩)
        | (go_at_call 29; (with_reducible refine H6.out.mono ?_); rintro e w6 ⟨rfl, rfl⟩)
        | (go_at_call 25; (with_reducible refine H2.out.mono ?_); rintro e w6 ⟨rfl, rfl⟩)
        | (go_at_call 26; (with_reducible refine H5.out.mono ?_); rintro e w6 ⟨rfl, rfl⟩)
        | (go_at_call 21; refine HAL.out.mono ?_; rintro e w7 ⟨rfl, hb7⟩; have HB7 := Lib.hid hb7; clear hb7)
        | (go_at_call 30; refine (HLV.out _).mono ?_; rintro e w8 ⟨rfl, hb8⟩; have HB8 := Lib.hid hb8; clear hb8))
      go_ret
      exact ⟨rfl, (HBW.out.trans (HB7.out.mono HBW.out.size)).trans (HB8.out.mono (Nat.le_trans HBW.out.size HB7.out.size))⟩
end Go.Proofs.YtokplfkhpjcfcaaGreat.S16
set_option linter.unusedVariables false
set_option linter.unusedSimpArgs false
namespace Go.Proofs.YtokplfkhpjcfcaaGreat.S16
open Go.Proofs.YtokplfkhpjcfcaaGreat Go.Proofs.YtokplfkhpjcfcaaGreat.S11 Go.Proofs.YtokplfkhpjcfcaaGreat.S12 Go.Proofs.YtokplfkhpjcfcaaGreat.S13 Go.Proofs.YtokplfkhpjcfcaaGreat.S14 Go.Proofs.YtokplfkhpjcfcaaGreat.S15
open Go.RowKit
theorem law_void (t : Int) (a b : Nat) (w : World) : Calls Tryz.prog 4 #[.int .i64 t, .int .u32 (a : Int), .int .u32 (b : Int)] w fun e w' => e = .returned (.bool true) ∧ Below w.heap.size w w' := by
  rcases (show t < 0 ∨ 64 ≤ t ∨ (0 ≤ t ∧ t < 64) by omega) with h | h | h
  · exact law_void_neg t a b h w
  · exact law_void_big t a b h w
  · exact law_void_thread t a b h w
end Go.Proofs.YtokplfkhpjcfcaaGreat.S16
