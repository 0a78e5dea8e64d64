/- Texts of this seat, one behind the other. -/
import Derived.Test.YtokplfkhpjcfcaaGreatMLawAny151
import Derived.Test.YtokplfkhpjcfcaaGreatMLawAny1532
import Derived.LoopTactic
import Derived.Deep.LoopGhost
set_option linter.unusedVariables false
set_option linter.unusedSimpArgs false
set_option linter.unusedVariables false
set_option linter.unusedSimpArgs false
namespace Go.Proofs.YtokplfkhpjcfcaaGreat.S15
set_option maxRecDepth 100000
set_option maxHeartbeats 16000000
open Go.Proofs.YtokplfkhpjcfcaaGreat Go.Proofs.YtokplfkhpjcfcaaGreat.S11 Go.Proofs.YtokplfkhpjcfcaaGreat.S12 Go.Proofs.YtokplfkhpjcfcaaGreat.S13 Go.Proofs.YtokplfkhpjcfcaaGreat.S14
open Go.RowKit
theorem lay_e : Lay 60 59 1 8 (.pointer none) := ⟨by kernel_rfl, info_of (by kernel_rfl), rfl, by omega, by omega⟩
theorem append_e {w : World} {LB0 LB1 B BX : Nat} (c0 : w.cell? ⟨LB0, 0, none⟩ = some (.pointer none)) (c1 : w.cell? ⟨LB0, 1, none⟩ = some (Pw B)) (c2 : w.cell? ⟨LB1, 0, none⟩ = some (Pw BX)) (ty : TypeId) :
    ∃ (cc : Nat) (row : Array Value), row[0]? = some (.pointer none) ∧ row[1]? = some (Pw B) ∧ row[2]? = some (Pw BX) ∧
      (Builtin.append_ #[60, 60] ty #[.slice (some ⟨LB0, 0, none⟩) 2 2, .slice (some ⟨LB1, 0, none⟩) 1 1]).run Tryz.prog w = .ok (.slice (some ⟨w.heap.size, 0, none⟩) 3 cc) (w.drew.alloc (.cells row 59)) := by
  obtain ⟨i, hi, hz, hsz, hby⟩ := lay_e.info
  have r0 : Rd w (LB0 + 1) (some ⟨LB0, 0, none⟩) [.pointer none, Pw B] := fun _ => ⟨LB0, 0, rfl, by omega, fun j u e => by
    match j, e with
    | 0, e => simp at e; rw [← e]; exact c0
    | 1, e => simp at e; rw [← e]; exact c1⟩
  have r1 : Rd w (LB1 + 1) (some ⟨LB1, 0, none⟩) [Pw BX] := fun _ => ⟨LB1, 0, rfl, by omega, fun j u e => by
    match j, e with
    | 0, e => simp at e; rw [← e]; exact c2⟩
  have r0d : Rd w.drew (LB0 + 1) (some ⟨LB0, 0, none⟩) [.pointer none, Pw B] := r0
  have hold := (r0d.src lay_e (m := 2) rfl (by intro u hu; simp at hu; rcases hu with rfl | rfl <;> rfl) 2).cells
  have hs := r1.src lay_e (m := 1) rfl (by intro u hu; simp at hu; subst hu; rfl) 1
  have hold' : (Builtin.firstCells i.size 2 (.slice (some ⟨LB0, 0, none⟩) 2 2)).run Tryz.prog w.drew = .ok #[.pointer none, Pw B] w.drew := by rw [hsz]; exact hold
  have hs' : Src Tryz.prog i.size 60 (.slice (some ⟨LB1, 0, none⟩) 1 1) 1 [Pw BX] w := by rw [hsz]; exact hs
  have hrun := run_append_grow_src (P := Tryz.prog) w 60 60 ty 59 i (.pointer none) lay_e.und hi hz (some ⟨LB0, 0, none⟩) 2 2 [.pointer none, Pw B] hold' _ 1 [Pw BX] hs' (by omega) (by omega) (growslice_fits (by omega) (by rw [hby]; omega))
  exact ⟨_, _, by rw [Array.getElem?_append_left (by simp)]; rfl, by rw [Array.getElem?_append_left (by simp)]; rfl, by rw [Array.getElem?_append_left (by simp)]; rfl, hrun⟩
theorem wpList_append_e {w : World} {LB0 LB1 B BX : Nat} (c0 : w.cell? ⟨LB0, 0, none⟩ = some (.pointer none)) (c1 : w.cell? ⟨LB0, 1, none⟩ = some (Pw B)) (c2 : w.cell? ⟨LB1, 0, none⟩ = some (Pw BX)) {ops : Array Oper} {rest : List Oper} {o : Oper} {a : Act} {Q : Exit → Act → World → Prop} (hgd : o.guard = none) (s x : Operand)
    (ho : o.op = .call { callee := .builtin .append, args := #[s, x], argTypes := #[60, 60] }) (hs : a.eval s = .slice (some ⟨LB0, 0, none⟩) 2 2) (hx : a.eval x = .slice (some ⟨LB1, 0, none⟩) 1 1)
    (hK : ∀ (cc : Nat) (row : Array Value), row[0]? = some (.pointer none) → row[1]? = some (Pw B) → row[2]? = some (Pw BX) → wpList Tryz.prog ops Q rest (a.put o.dst (.slice (some ⟨w.heap.size, 0, none⟩) 3 cc)) (w.drew.alloc (.cells row 59))) : wpList Tryz.prog ops Q (o :: rest) a w :=
  wpList_plain hgd fun _ hK' => by
    obtain ⟨cc, row, h0, h1, h2, hrun⟩ := append_e c0 c1 c2 o.type
    unfold Oper.wp execOp
    simp only [ho, resolve, invoke, builtin, Sem.run_bind, Sem.run_pure, Result.andThen_ok, List.map_toArray, List.map_cons, List.map_nil, hs, hx, hrun]
    exact hK' _ _ (hK cc row h0 h1 h2)
theorem lay_o : Lay 62 61 1 8 (.pointer none) := ⟨by kernel_rfl, info_of (by kernel_rfl), rfl, by omega, by omega⟩
theorem append_o {w : World} {LB0 LB1 B BX : Nat} (c0 : w.cell? ⟨LB0, 0, none⟩ = some (.pointer none)) (c1 : w.cell? ⟨LB0, 1, none⟩ = some (Pw B)) (c2 : w.cell? ⟨LB1, 0, none⟩ = some (Pw BX)) (ty : TypeId) :
    ∃ (cc : Nat) (row : Array Value), row[0]? = some (.pointer none) ∧ row[1]? = some (Pw B) ∧ row[2]? = some (Pw BX) ∧
      (Builtin.append_ #[62, 62] ty #[.slice (some ⟨LB0, 0, none⟩) 2 2, .slice (some ⟨LB1, 0, none⟩) 1 1]).run Tryz.prog w = .ok (.slice (some ⟨w.heap.size, 0, none⟩) 3 cc) (w.drew.alloc (.cells row 61)) := by
  obtain ⟨i, hi, hz, hsz, hby⟩ := lay_o.info
  have r0 : Rd w (LB0 + 1) (some ⟨LB0, 0, none⟩) [.pointer none, Pw B] := fun _ => ⟨LB0, 0, rfl, by omega, fun j u e => by
    match j, e with
    | 0, e => simp at e; rw [← e]; exact c0
    | 1, e => simp at e; rw [← e]; exact c1⟩
  have r1 : Rd w (LB1 + 1) (some ⟨LB1, 0, none⟩) [Pw BX] := fun _ => ⟨LB1, 0, rfl, by omega, fun j u e => by
    match j, e with
    | 0, e => simp at e; rw [← e]; exact c2⟩
  have r0d : Rd w.drew (LB0 + 1) (some ⟨LB0, 0, none⟩) [.pointer none, Pw B] := r0
  have hold := (r0d.src lay_o (m := 2) rfl (by intro u hu; simp at hu; rcases hu with rfl | rfl <;> rfl) 2).cells
  have hs := r1.src lay_o (m := 1) rfl (by intro u hu; simp at hu; subst hu; rfl) 1
  have hold' : (Builtin.firstCells i.size 2 (.slice (some ⟨LB0, 0, none⟩) 2 2)).run Tryz.prog w.drew = .ok #[.pointer none, Pw B] w.drew := by rw [hsz]; exact hold
  have hs' : Src Tryz.prog i.size 62 (.slice (some ⟨LB1, 0, none⟩) 1 1) 1 [Pw BX] w := by rw [hsz]; exact hs
  have hrun := run_append_grow_src (P := Tryz.prog) w 62 62 ty 61 i (.pointer none) lay_o.und hi hz (some ⟨LB0, 0, none⟩) 2 2 [.pointer none, Pw B] hold' _ 1 [Pw BX] hs' (by omega) (by omega) (growslice_fits (by omega) (by rw [hby]; omega))
  exact ⟨_, _, by rw [Array.getElem?_append_left (by simp)]; rfl, by rw [Array.getElem?_append_left (by simp)]; rfl, by rw [Array.getElem?_append_left (by simp)]; rfl, hrun⟩
theorem wpList_append_o {w : World} {LB0 LB1 B BX : Nat} (c0 : w.cell? ⟨LB0, 0, none⟩ = some (.pointer none)) (c1 : w.cell? ⟨LB0, 1, none⟩ = some (Pw B)) (c2 : w.cell? ⟨LB1, 0, none⟩ = some (Pw BX)) {ops : Array Oper} {rest : List Oper} {o : Oper} {a : Act} {Q : Exit → Act → World → Prop} (hgd : o.guard = none) (s x : Operand)
    (ho : o.op = .call { callee := .builtin .append, args := #[s, x], argTypes := #[62, 62] }) (hs : a.eval s = .slice (some ⟨LB0, 0, none⟩) 2 2) (hx : a.eval x = .slice (some ⟨LB1, 0, none⟩) 1 1)
    (hK : ∀ (cc : Nat) (row : Array Value), row[0]? = some (.pointer none) → row[1]? = some (Pw B) → row[2]? = some (Pw BX) → wpList Tryz.prog ops Q rest (a.put o.dst (.slice (some ⟨w.heap.size, 0, none⟩) 3 cc)) (w.drew.alloc (.cells row 61))) : wpList Tryz.prog ops Q (o :: rest) a w :=
  wpList_plain hgd fun _ hK' => by
    obtain ⟨cc, row, h0, h1, h2, hrun⟩ := append_o c0 c1 c2 o.type
    unfold Oper.wp execOp
    simp only [ho, resolve, invoke, builtin, Sem.run_bind, Sem.run_pure, Result.andThen_ok, List.map_toArray, List.map_cons, List.map_nil, hs, hx, hrun]
    exact hK' _ _ (hK cc row h0 h1 h2)
theorem cell_at {w : World} {B i T : Nat} {row : Array Value} {v : Value} (h : w.heap[B]? = some (.cells row T (0, 0))) (e : row[i]? = some v) : w.cell? ⟨B, i, none⟩ = some v := by
  rw [cell_row h i]; exact e
def VE (w : World) (v : Value) : Prop := ∀ W, Below w.heap.size w W →
  (Calls Tryz.prog 18 #[v] W fun e w' => e = .returned (plV 0 0) ∧ Below W.heap.size W w') ∧ (Calls Tryz.prog 16 #[v] W fun e w' => e = .returned (.bool true) ∧ Below W.heap.size W w') ∧ ∀ u, Calls Tryz.prog 17 #[v, u] W fun e w' => e = .returned (.bool true) ∧ Below W.heap.size W w'
def VO (w : World) (v : Value) : Prop := ∀ W, Below w.heap.size w W →
  (Calls Tryz.prog 15 #[v] W fun e w' => e = .returned (.tuple #[plV 0 0, .int .u32 0]) ∧ Below W.heap.size W w') ∧ (Calls Tryz.prog 19 #[v] W fun e w' => e = .returned (.bool true) ∧ Below W.heap.size W w') ∧ ∀ u, Calls Tryz.prog 20 #[v, u] W fun e w' => e = .returned (.bool true) ∧ Below W.heap.size W w'
theorem ve_nil (w : World) : VE w (.pointer none) := fun W _ => ⟨egot_nil W, (eover_nil W).mono (by rintro e w' ⟨rfl, rfl⟩; exact ⟨rfl, Below.refl _ _⟩), fun u => (estep_nil u W).mono (by rintro e w' ⟨rfl, rfl⟩; exact ⟨rfl, Below.refl _ _⟩)⟩
theorem vo_nil (w : World) : VO w (.pointer none) := fun W _ => ⟨ogot_nil W, (oover_nil W).mono (by rintro e w' ⟨rfl, rfl⟩; exact ⟨rfl, Below.refl _ _⟩), fun u => (ostep_nil u W).mono (by rintro e w' ⟨rfl, rfl⟩; exact ⟨rfl, Below.refl _ _⟩)⟩
theorem ve_blk {w : World} {B : Nat} (h : w.heap[B]? = some (.cells zeroW 57 (0, 0))) : VE w (Pw B) := fun W hb => by
  have h2 := (hb.block B (heap_lt h)).trans h
  exact ⟨egot_z h2, eover_z h2, fun u => estep_z h2 u⟩
theorem vo_blk {w : World} {B : Nat} (h : w.heap[B]? = some (.cells zeroW 58 (0, 0))) : VO w (Pw B) := fun W hb => by
  have h2 := (hb.block B (heap_lt h)).trans h
  exact ⟨ogot_z h2, oover_z h2, fun u => ostep_z h2 u⟩
theorem VE.new {w w' : World} {v : Value} (h : VE w v) (b : Below w.heap.size w w') : VE w' v := fun W hb => h W (b.trans (hb.mono b.size))
theorem VO.new {w w' : World} {v : Value} (h : VO w v) (b : Below w.heap.size w w') : VO w' v := fun W hb => h W (b.trans (hb.mono b.size))
theorem wover_s {w : World} {B : Nat} {P : Option Addr} (c0 : w.cell? ⟨B, 0, none⟩ = some (.slice P 4 4)) (c1 : w.cell? ⟨B, 1, none⟩ = some (.int .i64 0)) : Calls Tryz.prog 49 #[Pw B] w fun e w' => e = .returned (.bool false) ∧ Below w.heap.size w w' := by
  go_enter Tryz.func49, Tryz.ntmps49
  go_upto_region 1 with (fail)
  go_quiet (fail)
  go_wp2_with fail
  go_ret
  exact ⟨rfl, below_n _ _⟩
theorem eover_s {w : World} {B : Nat} {P : Option Addr} (c0 : w.cell? ⟨B, 0, none⟩ = some (.slice P 4 4)) (c1 : w.cell? ⟨B, 1, none⟩ = some (.int .i64 0)) : Calls Tryz.prog 16 #[Pw B] w fun e w' => e = .returned (.bool false) ∧ Below w.heap.size w w' := by
  have HW := Lib.hid (wover_s c0 c1)
  clear c0 c1
  go_enter Tryz.func16, Tryz.ntmps16
  go_wp2_with (go_at_call 49; refine HW.out.mono ?_; rintro e w1 ⟨rfl, hb⟩)
  go_ret
  exact ⟨rfl, hb⟩
theorem estep_s {w : World} {B : Nat} {P : Option Addr} (c0 : w.cell? ⟨B, 0, none⟩ = some (.slice P 4 4)) (c1 : w.cell? ⟨B, 1, none⟩ = some (.int .i64 0)) : Calls Tryz.prog 17 #[Pw B, .pointer none] w fun e w' => e = .returned (.bool false) ∧ Below w.heap.size w w' := by
  have HO := Lib.hid (fun (W : World) (hb : Below w.heap.size w W) => eover_s (bcell hb c0) (bcell hb c1))
  clear c0 c1
  go_enter Tryz.func17, Tryz.ntmps17
  go_upto_region 3 with (go_at_call 16; refine (HO.out _ (Below.refl _ _)).mono ?_; rintro e w2 ⟨rfl, hb2⟩; have HB2 := Lib.hid hb2; clear hb2)
  go_wp2_with (go_at_call 16; refine (HO.out _ HB2.out).mono ?_; rintro e w3 ⟨rfl, hb3⟩; have HB3 := Lib.hid hb3; clear hb3)
  go_ret
  exact ⟨rfl, HB2.out.trans (HB3.out.mono HB2.out.size)⟩
theorem neqR (b1 i1 : Int) (w : World) : (binOp .neq 29 (.agg #[.int .i64 b1, .int .i64 i1]) (.agg #[.int .i64 b1, .int .i64 i1])).run Tryz.prog w = .ok (.bool false) w := by
  simp [go_sem, Tryz.underlying29]
theorem neqP2 (b1 i1 : Int) (w : World) : (binOp .neq 27 (.agg #[.int .i64 b1, .int .i64 i1]) (.agg #[.int .i64 b1, .int .i64 i1])).run Tryz.prog w = .ok (.bool false) w := by
  simp [go_sem, Tryz.underlying27]
theorem law_any_neg (u key : Nat) (z0 z1 t : Int) (hu : u < 18446744073709551616) (hk : key < 4294967296) (ht : t < 0) (w : World) : Calls Tryz.prog 3 #[.int .u64 (u : Int), .int .u32 (key : Int), .agg #[.int .i64 z0, .int .i64 z1, .int .i64 t]] w fun e w' => e = .returned (.bool true) ∧ Below w.heap.size w w' := by
  have HBG := Lib.hid (fun W => S14.begin_void W)
  have HLV := Lib.hid (fun W => lives15 W)
  have HNE : Hid (∀ W, Calls Tryz.prog 13 #[.int .i64 5, .int .u32 (key : Int)] W fun e w' => ∃ v, e = .returned v ∧ NewE W w' false 5 key v) := Lib.hid (fun W => new_enter 5 key (by omega) hk W)
  have HBI := Lib.hid (fun W => bits_any u hu W); have HRB := Lib.hid (fun W => rbits_any u W)
  have hpl := fun W => place_any key u hk hu W
  have hrp := fun W => rplace_any key u hk W
  unfold placeV at hpl hrp
  have HPL := Lib.hid hpl; have HRP := Lib.hid hrp; have HLK := Lib.hid (fun W => lockOf_any z0 z1 W); have HRL := Lib.hid (fun W => rlockOf_any z0 z1 W); have HOT := Lib.hid (fun b i W => S10.otherP_any b i W)
  generalize bitsN u = bn at *
  generalize bktN key u = bk at *
  generalize S10.lockZ z0 z1 = lz at *
  have HNN := Lib.hid (fun W => new_enter_none (t := t) (by omega) key W)
  have HNO := Lib.hid (fun W => new_own_none (t := t) (by omega) W)
  have d1 : decide (t < 0) = true := decide_eq_true ht
  have hnq := neqR (bn : Int) (bk : Int)
  have hnp := neqP2 0 0
  clear ht hu hk hpl hrp
  go_enter Tryz.func3, Tryz.ntmps3
  go_upto_region 2 with (fail)
  obtain ⟨w1, hw1⟩ : ∃ w1, w1 = (w.alloc (.cells #[.int .i64 z0, .int .i64 z1, .int .i64 t] 25)).alloc (.cells #[.int .i64 z0, .int .i64 z1] 27) := ⟨_, rfl⟩
  obtain ⟨ZB, hZB⟩ : ∃ ZB, ZB = w.heap.size := ⟨_, rfl⟩
  have hz : w1.heap[ZB]? = some (.cells #[.int .i64 z0, .int .i64 z1, .int .i64 t] 25 (0, 0)) := by rw [hw1, alloc_lt (by rw [alloc_size, hZB]; omega)]; exact alloc_at hZB
  have hp : w1.heap[ZB + 1]? = some (.cells #[.int .i64 z0, .int .i64 z1] 27 (0, 0)) := by rw [hw1]; exact alloc_at (by rw [alloc_size, hZB])
  have hb1 : Below w.heap.size w w1 := by rw [hw1]; exact (below1 w _).alloc (by rw [alloc_size]; omega) _
  rw [← hw1, ← hZB]
  have HZ1 := Lib.hid hz; have HP1 := Lib.hid hp; have HB1 := Lib.hid hb1; have HC29 := Lib.hid ((Below.refl w1.heap.size w1).drew)
  clear hz hp hb1 hw1 hZB
  generalize ZB + 1 = PLB at *
  refine wp_region_held_drew (S := fun w' => w'.cell? ⟨PLB, 0, none⟩ = some (.int .i64 z0) ∧ w'.cell? ⟨PLB, 1, none⟩ = some (.int .i64 z1)) (by kernel_rfl) ?_ (fun hHeld => ?_)
  · exact ⟨cell_row HP1.out 0, cell_row HP1.out 1⟩
  refine tA 0 ⟨some 22, .move (.tmp 0), 22, "law.go:90", #[], none⟩ ?vcnm1 ?rcnm1
  (try simp only [Act.put, tC, tD, tE])
  refine tA 2 ⟨some 24, .move (.tmp 0), 22, "law.go:90", #[], none⟩ ?vcnm2 ?rcnm2
  (try simp only [Act.put, tC, tD, tE])
  refine wpAnyH_ready (rs := [1]) (by kernel_rfl) (by simp) ?_
  refine AllReadyH.cons (o := ⟨some 23, .call ⟨.value (.func 5), #[.tmp 22], #[22]⟩, 3, "law.go:90", #[⟨0, .data⟩], none⟩) rfl (fun Kq hKq => ?_) AllReadyH.nil
  go_simp
  (refine (HBI.out _).mono ?_; rintro e w30 ⟨rfl, rfl⟩)
  refine hKq.out _ _ ?_ (fun hHeld => ?_)
  · exact hHeld
  clear hKq Kq
  (try simp only [Act.put, tC, tD, tE])
  refine wpAnyH_ready (rs := [3]) (by kernel_rfl) (by simp) ?_
  refine AllReadyH.cons (o := ⟨some 25, .call ⟨.value (.func 6), #[.tmp 24], #[22]⟩, 3, "law.go:90", #[⟨2, .data⟩, ⟨1, .chain⟩], none⟩) rfl (fun Kq hKq => ?_) AllReadyH.nil
  go_simp
  (refine (HRB.out _).mono ?_; rintro e w31 ⟨rfl, rfl⟩)
  refine hKq.out _ _ ?_ (fun hHeld => ?_)
  · exact hHeld
  clear hKq Kq
  (try simp only [Act.put, tC, tD, tE])
  refine tA 4 ⟨some 26, .binOp .neq 3 (.tmp 23) (.tmp 25) 3, 4, "law.go:90", #[⟨1, .data⟩, ⟨3, .data⟩], none⟩ ?vcnm3 ?rcnm3
  (try simp only [Act.put, tC, tD, tE])
  refine tA 5 ⟨some 27, .move (.tmp 26), 4, "law.go:90", #[⟨4, .data⟩, ⟨3, .chain⟩], none⟩ ?vcnm4 ?rcnm4
  (try simp only [Act.put, tC, tD, tE])
  refine tA 6 ⟨some 28, .move (.tmp 1), 24, "law.go:90", #[⟨5, .guard⟩], some (5, false)⟩ ?vcnm5 ?rcnm5
  (try simp only [Act.put, tC, tD, tE])
  refine tA 7 ⟨some 29, .move (.tmp 0), 22, "law.go:90", #[⟨5, .guard⟩], some (5, false)⟩ ?vcnm6 ?rcnm6
  (try simp only [Act.put, tC, tD, tE])
  refine tA 10 ⟨some 32, .move (.tmp 1), 24, "law.go:90", #[⟨5, .guard⟩], some (5, false)⟩ ?vcnm7 ?rcnm7
  (try simp only [Act.put, tC, tD, tE])
  refine tA 11 ⟨some 33, .move (.tmp 0), 22, "law.go:90", #[⟨5, .guard⟩], some (5, false)⟩ ?vcnm8 ?rcnm8
  (try simp only [Act.put, tC, tD, tE])
  refine wpAnyH_ready (rs := [8]) (by kernel_rfl) (by simp) ?_
  refine AllReadyH.cons (o := ⟨some 30, .call ⟨.value (.func 8), #[.tmp 28, .tmp 29], #[24, 22]⟩, 27, "law.go:90", #[⟨6, .data⟩, ⟨7, .data⟩, ⟨5, .chain⟩, ⟨5, .guard⟩], some (5, false)⟩) rfl (fun Kq hKq => ?_) AllReadyH.nil
  go_simp
  (refine (HPL.out _).mono ?_; rintro e w32 ⟨rfl, hb32⟩; have HB32 := Lib.hid hb32; have HC32 := Lib.hid (HC29.out.trans (hb32.mono HC29.out.size)); clear hb32)
  refine hKq.out _ _ ?_ (fun hHeld => ?_)
  · exact ⟨bcell HB32.out hHeld.1, bcell HB32.out hHeld.2⟩
  clear hKq Kq
  (try simp only [Act.put, tC, tD, tE])
  refine wpAnyH_ready (rs := [9]) (by kernel_rfl) (by simp) ?_
  refine AllReadyH.cons (o := ⟨some 31, .call ⟨.value (.func 7), #[.tmp 30], #[27]⟩, 29, "law.go:90", #[⟨8, .data⟩, ⟨8, .chain⟩, ⟨5, .guard⟩], some (5, false)⟩) rfl (fun Kq hKq => ?_) AllReadyH.nil
  go_simp
  (refine (HOT.out _ _ _).mono ?_; rintro e w33 ⟨rfl, hb33⟩; have HB33 := Lib.hid hb33; have HC33 := Lib.hid (HC32.out.trans (hb33.mono HC32.out.size)); clear hb33)
  refine hKq.out _ _ ?_ (fun hHeld => ?_)
  · exact ⟨bcell HB33.out hHeld.1, bcell HB33.out hHeld.2⟩
  clear hKq Kq
  (try simp only [Act.put, tC, tD, tE])
  refine wpAnyH_ready (rs := [12]) (by kernel_rfl) (by simp) ?_
  refine AllReadyH.cons (o := ⟨some 34, .call ⟨.value (.func 9), #[.tmp 32, .tmp 33], #[24, 22]⟩, 29, "law.go:90", #[⟨10, .data⟩, ⟨11, .data⟩, ⟨9, .chain⟩, ⟨5, .guard⟩], some (5, false)⟩) rfl (fun Kq hKq => ?_) AllReadyH.nil
  go_simp
  (refine (HRP.out _).mono ?_; rintro e w34 ⟨rfl, hb34⟩; have HB34 := Lib.hid hb34; have HC34 := Lib.hid (HC33.out.trans (hb34.mono HC33.out.size)); clear hb34)
  refine hKq.out _ _ ?_ (fun hHeld => ?_)
  · exact ⟨bcell HB34.out hHeld.1, bcell HB34.out hHeld.2⟩
  clear hKq Kq
  (try simp only [Act.put, tC, tD, tE])
  refine tA 13 ⟨some 35, .binOp .neq 29 (.tmp 31) (.tmp 34) 29, 4, "law.go:90", #[⟨9, .data⟩, ⟨12, .data⟩, ⟨5, .guard⟩], some (5, false)⟩ ?vcnm9 ?rcnm9
  (try simp only [Act.put, tC, tD, tE])
  refine tA 14 ⟨some 36, .pick (.tmp 27) (.const (.bool true)) (.tmp 35), 4, "law.go:90", #[⟨5, .data⟩, ⟨13, .data⟩], none⟩ ?vcnm10 ?rcnm10
  (try simp only [Act.put, tC, tD, tE])
  refine tA 15 ⟨some 37, .move (.tmp 36), 4, "law.go:90", #[⟨14, .data⟩, ⟨12, .chain⟩], none⟩ ?vcnm11 ?rcnm11
  (try simp only [Act.put, tC, tD, tE])
  refine tA 16 ⟨some 38, .load 27 (.tmp 7), 27, "law.go:90", #[⟨15, .guard⟩], some (15, false)⟩ ?vcnm12 ?rcnm12
  (try simp only [Act.put, tC, tD, tE])
  refine tA 18 ⟨some 40, .load 27 (.tmp 7), 27, "law.go:90", #[⟨15, .guard⟩], some (15, false)⟩ ?vcnm13 ?rcnm13
  (try simp only [Act.put, tC, tD, tE])
  refine wpAnyH_ready (rs := [17]) (by kernel_rfl) (by simp) ?_
  refine AllReadyH.cons (o := ⟨some 39, .call ⟨.value (.func 10), #[.tmp 38], #[27]⟩, 24, "law.go:90", #[⟨16, .data⟩, ⟨15, .chain⟩, ⟨15, .guard⟩], some (15, false)⟩) rfl (fun Kq hKq => ?_) AllReadyH.nil
  go_simp
  (refine (HLK.out _).mono ?_; rintro e w35 ⟨rfl, hb35⟩; have HB35 := Lib.hid hb35; have HC35 := Lib.hid (HC34.out.trans (hb35.mono HC34.out.size)); clear hb35)
  refine hKq.out _ _ ?_ (fun hHeld => ?_)
  · exact ⟨bcell HB35.out hHeld.1, bcell HB35.out hHeld.2⟩
  clear hKq Kq
  (try simp only [Act.put, tC, tD, tE])
  refine wpAnyH_ready (rs := [19]) (by kernel_rfl) (by simp) ?_
  refine AllReadyH.cons (o := ⟨some 41, .call ⟨.value (.func 7), #[.tmp 40], #[27]⟩, 29, "law.go:90", #[⟨18, .data⟩, ⟨17, .chain⟩, ⟨15, .guard⟩], some (15, false)⟩) rfl (fun Kq hKq => ?_) AllReadyH.nil
  go_simp
  (refine (HOT.out _ _ _).mono ?_; rintro e w36 ⟨rfl, hb36⟩; have HB36 := Lib.hid hb36; have HC36 := Lib.hid (HC35.out.trans (hb36.mono HC35.out.size)); clear hb36)
  refine hKq.out _ _ ?_ (fun hHeld => ?_)
  · exact ⟨bcell HB36.out hHeld.1, bcell HB36.out hHeld.2⟩
  clear hKq Kq
  (try simp only [Act.put, tC, tD, tE])
  refine wpAnyH_ready (rs := [20]) (by kernel_rfl) (by simp) ?_
  refine AllReadyH.cons (o := ⟨some 42, .call ⟨.value (.func 11), #[.tmp 41], #[29]⟩, 24, "law.go:90", #[⟨19, .data⟩, ⟨19, .chain⟩, ⟨15, .guard⟩], some (15, false)⟩) rfl (fun Kq hKq => ?_) AllReadyH.nil
  go_simp
  (refine (HRL.out _).mono ?_; rintro e w37 ⟨rfl, hb37⟩; have HB37 := Lib.hid hb37; have HC37 := Lib.hid (HC36.out.trans (hb37.mono HC36.out.size)); clear hb37)
  refine hKq.out _ _ ?_ (fun hHeld => ?_)
  · exact ⟨bcell HB37.out hHeld.1, bcell HB37.out hHeld.2⟩
  clear hKq Kq
  (try simp only [Act.put, tC, tD, tE])
  refine tA 21 ⟨some 43, .binOp .neq 24 (.tmp 39) (.tmp 42) 24, 4, "law.go:90", #[⟨17, .data⟩, ⟨20, .data⟩, ⟨15, .guard⟩], some (15, false)⟩ ?vcnm14 ?rcnm14
  (try simp only [Act.put, tC, tD, tE])
  refine tA 22 ⟨some 44, .pick (.tmp 37) (.const (.bool true)) (.tmp 43), 4, "law.go:90", #[⟨15, .data⟩, ⟨21, .data⟩], none⟩ ?vcnm15 ?rcnm15
  (try simp only [Act.put, tC, tD, tE])
  refine wpAnyH_done (by kernel_rfl) ?_ _
  clear hHeld HBI HRB HPL HRP HLK HRL HOT hnq
  go_upto_region 9 with (go_at_call 12; refine (HBG.out _).mono ?_; rintro e w2 ⟨M, X, Y, rfl, hbg⟩)
  obtain ⟨w3, hw3⟩ : ∃ w3, w3 = w2.alloc (.cells #[Pw X.wB, Pw Y.wB] 38) := ⟨_, rfl⟩
  obtain ⟨w4, hw4⟩ : ∃ w4, w4 = w3.alloc (.cells #[.slice none 0 0, .int .i64 0, .int .i64 0, .pointer none, .pointer none, .int .i64 0, .int .i64 0, .bool false, .nilIface] 57) := ⟨_, rfl⟩
  obtain ⟨w5, hw5⟩ : ∃ w5, w5 = w4.alloc (.cells #[.slice none 0 0, .int .i64 0, .int .i64 0, .pointer none, .pointer none, .int .i64 0, .int .i64 0, .bool false, .nilIface] 58) := ⟨_, rfl⟩
  obtain ⟨w6, hw6⟩ : ∃ w6, w6 = w5.alloc (.cells #[.pointer none, Pw w3.heap.size] 59) := ⟨_, rfl⟩
  obtain ⟨w7, hw7⟩ : ∃ w7, w7 = w6.alloc (.cells #[.pointer none, Pw w4.heap.size] 61) := ⟨_, rfl⟩
  have z3 : w3.heap.size = w2.heap.size + 1 := by rw [hw3]; simp
  have z4 : w4.heap.size = w2.heap.size + 1 + 1 := by rw [hw4, alloc_size, z3]
  have z5 : w5.heap.size = w2.heap.size + 1 + 1 + 1 := by rw [hw5, alloc_size, z4]
  have z6 : w6.heap.size = w2.heap.size + 1 + 1 + 1 + 1 := by rw [hw6, alloc_size, z5]
  have b3 : Below w2.heap.size w2 w3 := by rw [hw3]; exact below1 _ _
  have b4 : Below w3.heap.size w3 w4 := by rw [hw4]; exact below1 _ _
  have b5 : Below w4.heap.size w4 w5 := by rw [hw5]; exact below1 _ _
  have b6 : Below w5.heap.size w5 w6 := by rw [hw6]; exact below1 _ _
  have b7 : Below w6.heap.size w6 w7 := by rw [hw7]; exact below1 _ _
  have q3 : w3.heap[w2.heap.size]? = some (.cells #[Pw X.wB, Pw Y.wB] 38 (0, 0)) := by rw [hw3]; exact heap_alloc_new _ _
  have q4 : w4.heap[w3.heap.size]? = some (.cells zeroW 57 (0, 0)) := by rw [hw4]; exact heap_alloc_new _ _
  have q5 : w5.heap[w4.heap.size]? = some (.cells zeroW 58 (0, 0)) := by rw [hw5]; exact heap_alloc_new _ _
  have q6 : w6.heap[w5.heap.size]? = some (.cells #[.pointer none, Pw w3.heap.size] 59 (0, 0)) := by rw [hw6]; exact heap_alloc_new _ _
  have q7 : w7.heap[w6.heap.size]? = some (.cells #[.pointer none, Pw w4.heap.size] 61 (0, 0)) := by rw [hw7]; exact heap_alloc_new _ _
  have b57 : Below w5.heap.size w5 w7 := b6.trans (b7.mono b6.size)
  have b47 : Below w4.heap.size w4 w7 := b5.trans (b57.mono b5.size)
  have b37 : Below w3.heap.size w3 w7 := b4.trans (b47.mono b4.size)
  have p7 := (b37.block _ (heap_lt q3)).trans q3
  have v7 := (b47.block _ (heap_lt q4)).trans q4
  have o7 := (b57.block _ (heap_lt q5)).trans q5
  have l7 := (b7.block _ (heap_lt q6)).trans q6
  have hbg7 := (((((hbg.new b3).new b4).new b5).new b6).new b7)
  have e7 : ((((w2.alloc (.cells #[Pw X.wB, Pw Y.wB] 38)).alloc (.cells #[.slice none 0 0, .int .i64 0, .int .i64 0, .pointer none, .pointer none, .int .i64 0, .int .i64 0, .bool false, .nilIface] 57)).alloc (.cells #[.slice none 0 0, .int .i64 0, .int .i64 0, .pointer none, .pointer none, .int .i64 0, .int .i64 0, .bool false, .nilIface] 58)).alloc (.cells #[.pointer none, Pw (w2.heap.size + 1)] 59)).alloc (.cells #[.pointer none, Pw (w2.heap.size + 1 + 1)] 61) = w7 := by rw [hw7, hw6, hw5, hw4, ← hw3, z3, ← hw4, z4]
  rw [e7]
  have hbw : Below w1.heap.size w1 w7 := HC37.out.trans (hbg7.bl.mono HC37.out.size)
  have HB7 := Lib.hid hbg7; have HP7 := Lib.hid p7; have HV7 := Lib.hid v7; have HO7 := Lib.hid o7; have HL7 := Lib.hid l7; have HQ7 := Lib.hid q7; have HBW := Lib.hid hbw; have HZ := Lib.hid (And.intro z3 (And.intro z4 (And.intro z5 z6)))
  clear hw3 hw4 hw5 hw6 hw7 z3 z4 z5 z6 b3 b4 b5 b6 b7 q3 q4 q5 q6 q7 p7 v7 o7 l7 hbg7 hbg e7 hbw b57 b47 b37 HBG
  rw [HZ.out.1] at HV7 HL7
  rw [HZ.out.2.1] at HO7 HQ7
  rw [HZ.out.2.2.1] at HL7
  rw [HZ.out.2.2.2] at HQ7
  clear HZ
  generalize w2.heap.size = PB at *
  generalize PB + 1 = EX at *
  generalize EX + 1 = OX at *
  generalize OX + 1 = L1 at *
  generalize L1 + 1 = L2 at *
  clear w3 w4 w5 w6
  have zc2 : w7.cell? ⟨ZB, 2, none⟩ = some (.int .i64 t) := bcell HBW.out (cell_row HZ1.out 2)
  go_upto_region 10 with (fail)
  have hA6 : (w7.alloc (.cells #[.slice none 0 0, .int .i64 0, .int .i64 0, .pointer none, .pointer none, .int .i64 0, .int .i64 0, .bool false, .nilIface] 57)).heap[w7.heap.size]? = some (.cells zeroW 57 (0, 0)) := heap_alloc_new _ _
  have hzA : (w7.alloc (.cells #[.slice none 0 0, .int .i64 0, .int .i64 0, .pointer none, .pointer none, .int .i64 0, .int .i64 0, .bool false, .nilIface] 57)).heap.size = w7.heap.size + 1 := alloc_size _ _
  have k0 : ((w7.alloc (.cells #[.slice none 0 0, .int .i64 0, .int .i64 0, .pointer none, .pointer none, .int .i64 0, .int .i64 0, .bool false, .nilIface] 57)).alloc (.cells #[Pw w7.heap.size] 59)).cell? ⟨L1, 0, none⟩ = some (.pointer none) := cell_row ((alloc_lt (Nat.lt_trans (heap_lt HL7.out) (by rw [alloc_size]; omega))).trans ((alloc_lt (heap_lt HL7.out)).trans HL7.out)) 0
  have k1 : ((w7.alloc (.cells #[.slice none 0 0, .int .i64 0, .int .i64 0, .pointer none, .pointer none, .int .i64 0, .int .i64 0, .bool false, .nilIface] 57)).alloc (.cells #[Pw w7.heap.size] 59)).cell? ⟨L1, 1, none⟩ = some (Pw EX) := cell_row ((alloc_lt (Nat.lt_trans (heap_lt HL7.out) (by rw [alloc_size]; omega))).trans ((alloc_lt (heap_lt HL7.out)).trans HL7.out)) 1
  have k2 : ((w7.alloc (.cells #[.slice none 0 0, .int .i64 0, .int .i64 0, .pointer none, .pointer none, .int .i64 0, .int .i64 0, .bool false, .nilIface] 57)).alloc (.cells #[Pw w7.heap.size] 59)).cell? ⟨w7.heap.size + 1, 0, none⟩ = some (Pw w7.heap.size) := by
    rw [← hzA]; exact cell_row (heap_alloc_new _ _) 0
  have hA8 : ((w7.alloc (.cells #[.slice none 0 0, .int .i64 0, .int .i64 0, .pointer none, .pointer none, .int .i64 0, .int .i64 0, .bool false, .nilIface] 57)).alloc (.cells #[Pw w7.heap.size] 59)).heap[w7.heap.size]? = some (.cells zeroW 57 (0, 0)) := (alloc_lt (heap_lt hA6)).trans hA6
  have hb8 : Below w7.heap.size w7 ((w7.alloc (.cells #[.slice none 0 0, .int .i64 0, .int .i64 0, .pointer none, .pointer none, .int .i64 0, .int .i64 0, .bool false, .nilIface] 57)).alloc (.cells #[Pw w7.heap.size] 59)) := (below1 w7 _).alloc (by rw [alloc_size]; omega) _
  have hz8 : ((w7.alloc (.cells #[.slice none 0 0, .int .i64 0, .int .i64 0, .pointer none, .pointer none, .int .i64 0, .int .i64 0, .bool false, .nilIface] 57)).alloc (.cells #[Pw w7.heap.size] 59)).heap.size = w7.heap.size + 1 + 1 := by rw [alloc_size, alloc_size]
  have HA8 := Lib.hid hA8; have HB8 := Lib.hid hb8; have HZ8 := Lib.hid hz8
  clear hA6 hzA hA8 hb8 hz8
  go_upto_region 11 with (first
    | (go_at_call 13; refine (HNN.out _).mono ?_; rintro e w8 ⟨rfl, rfl⟩)
    | (at_builtin; refine wpList_append_e (LB0 := L1) (LB1 := w7.heap.size + 1) (B := EX) (BX := w7.heap.size) k0 k1 k2 rfl _ _ rfl rfl rfl ?_; intro cce rowe r0 r1 r2))
  have hbr : Below w7.heap.size w7 (((w7.alloc (.cells #[.slice none 0 0, .int .i64 0, .int .i64 0, .pointer none, .pointer none, .int .i64 0, .int .i64 0, .bool false, .nilIface] 57)).alloc (.cells #[Pw w7.heap.size] 59)).alloc (.cells rowe 59)).drew := (HB8.out.alloc HB8.out.size _).drew
  have hrw : (((w7.alloc (.cells #[.slice none 0 0, .int .i64 0, .int .i64 0, .pointer none, .pointer none, .int .i64 0, .int .i64 0, .bool false, .nilIface] 57)).alloc (.cells #[Pw w7.heap.size] 59)).alloc (.cells rowe 59)).drew.heap[w7.heap.size + 1 + 1]? = some (.cells rowe 59 (0, 0)) := by rw [← HZ8.out]; exact heap_alloc_new ((w7.alloc (.cells #[.slice none 0 0, .int .i64 0, .int .i64 0, .pointer none, .pointer none, .int .i64 0, .int .i64 0, .bool false, .nilIface] 57)).alloc (.cells #[Pw w7.heap.size] 59)) (.cells rowe 59)
  have hab : (((w7.alloc (.cells #[.slice none 0 0, .int .i64 0, .int .i64 0, .pointer none, .pointer none, .int .i64 0, .int .i64 0, .bool false, .nilIface] 57)).alloc (.cells #[Pw w7.heap.size] 59)).alloc (.cells rowe 59)).drew.heap[w7.heap.size]? = some (.cells zeroW 57 (0, 0)) := (alloc_lt (w := ((w7.alloc (.cells #[.slice none 0 0, .int .i64 0, .int .i64 0, .pointer none, .pointer none, .int .i64 0, .int .i64 0, .bool false, .nilIface] 57)).alloc (.cells #[Pw w7.heap.size] 59))) (ob := .cells rowe 59) (heap_lt HA8.out)).trans HA8.out
  obtain ⟨w9, hw9⟩ : ∃ wN, wN = (((w7.alloc (.cells #[.slice none 0 0, .int .i64 0, .int .i64 0, .pointer none, .pointer none, .int .i64 0, .int .i64 0, .bool false, .nilIface] 57)).alloc (.cells #[Pw w7.heap.size] 59)).alloc (.cells rowe 59)).drew := ⟨_, rfl⟩
  rw [← hw9] at hbr hrw hab ⊢
  have HRe := Lib.hid hrw; have HABe := Lib.hid hab; have HBRe := Lib.hid hbr; have HRRe := Lib.hid (And.intro r0 (And.intro r1 r2))
  clear hbr hrw hab hw9 HB8 HZ8 HA8 k0 k1 k2 r0 r1 r2
  generalize w7.heap.size + 1 + 1 = LNe at *
  clear zc2
  have zc2 : w9.cell? ⟨ZB, 2, none⟩ = some (.int .i64 t) := bcell (HBW.out.trans (HBRe.out.mono HBW.out.size)) (cell_row HZ1.out 2)
  have hq9 := (HBRe.out.block _ (heap_lt HQ7.out)).trans HQ7.out
  have HQ9 := Lib.hid hq9
  clear hq9
  have hA6 : (w9.alloc (.cells #[.slice none 0 0, .int .i64 0, .int .i64 0, .pointer none, .pointer none, .int .i64 0, .int .i64 0, .bool false, .nilIface] 58)).heap[w9.heap.size]? = some (.cells zeroW 58 (0, 0)) := heap_alloc_new _ _
  have hzA : (w9.alloc (.cells #[.slice none 0 0, .int .i64 0, .int .i64 0, .pointer none, .pointer none, .int .i64 0, .int .i64 0, .bool false, .nilIface] 58)).heap.size = w9.heap.size + 1 := alloc_size _ _
  have k0 : ((w9.alloc (.cells #[.slice none 0 0, .int .i64 0, .int .i64 0, .pointer none, .pointer none, .int .i64 0, .int .i64 0, .bool false, .nilIface] 58)).alloc (.cells #[Pw w9.heap.size] 61)).cell? ⟨L2, 0, none⟩ = some (.pointer none) := cell_row ((alloc_lt (Nat.lt_trans (heap_lt HQ9.out) (by rw [alloc_size]; omega))).trans ((alloc_lt (heap_lt HQ9.out)).trans HQ9.out)) 0
  have k1 : ((w9.alloc (.cells #[.slice none 0 0, .int .i64 0, .int .i64 0, .pointer none, .pointer none, .int .i64 0, .int .i64 0, .bool false, .nilIface] 58)).alloc (.cells #[Pw w9.heap.size] 61)).cell? ⟨L2, 1, none⟩ = some (Pw OX) := cell_row ((alloc_lt (Nat.lt_trans (heap_lt HQ9.out) (by rw [alloc_size]; omega))).trans ((alloc_lt (heap_lt HQ9.out)).trans HQ9.out)) 1
  have k2 : ((w9.alloc (.cells #[.slice none 0 0, .int .i64 0, .int .i64 0, .pointer none, .pointer none, .int .i64 0, .int .i64 0, .bool false, .nilIface] 58)).alloc (.cells #[Pw w9.heap.size] 61)).cell? ⟨w9.heap.size + 1, 0, none⟩ = some (Pw w9.heap.size) := by
    rw [← hzA]; exact cell_row (heap_alloc_new _ _) 0
  have hA8 : ((w9.alloc (.cells #[.slice none 0 0, .int .i64 0, .int .i64 0, .pointer none, .pointer none, .int .i64 0, .int .i64 0, .bool false, .nilIface] 58)).alloc (.cells #[Pw w9.heap.size] 61)).heap[w9.heap.size]? = some (.cells zeroW 58 (0, 0)) := (alloc_lt (heap_lt hA6)).trans hA6
  have hb8 : Below w9.heap.size w9 ((w9.alloc (.cells #[.slice none 0 0, .int .i64 0, .int .i64 0, .pointer none, .pointer none, .int .i64 0, .int .i64 0, .bool false, .nilIface] 58)).alloc (.cells #[Pw w9.heap.size] 61)) := (below1 w9 _).alloc (by rw [alloc_size]; omega) _
  have hz8 : ((w9.alloc (.cells #[.slice none 0 0, .int .i64 0, .int .i64 0, .pointer none, .pointer none, .int .i64 0, .int .i64 0, .bool false, .nilIface] 58)).alloc (.cells #[Pw w9.heap.size] 61)).heap.size = w9.heap.size + 1 + 1 := by rw [alloc_size, alloc_size]
  have HA8 := Lib.hid hA8; have HB8 := Lib.hid hb8; have HZ8 := Lib.hid hz8
  clear hA6 hzA hA8 hb8 hz8
  go_upto_region 12 with (first
    | (go_at_call 14; refine (HNO.out _).mono ?_; rintro e w8 ⟨rfl, rfl⟩)
    | (at_builtin; refine wpList_append_o (LB0 := L2) (LB1 := w9.heap.size + 1) (B := OX) (BX := w9.heap.size) k0 k1 k2 rfl _ _ rfl rfl rfl ?_; intro cco rowo r0 r1 r2))
  have hbr : Below w9.heap.size w9 (((w9.alloc (.cells #[.slice none 0 0, .int .i64 0, .int .i64 0, .pointer none, .pointer none, .int .i64 0, .int .i64 0, .bool false, .nilIface] 58)).alloc (.cells #[Pw w9.heap.size] 61)).alloc (.cells rowo 61)).drew := (HB8.out.alloc HB8.out.size _).drew
  have hrw : (((w9.alloc (.cells #[.slice none 0 0, .int .i64 0, .int .i64 0, .pointer none, .pointer none, .int .i64 0, .int .i64 0, .bool false, .nilIface] 58)).alloc (.cells #[Pw w9.heap.size] 61)).alloc (.cells rowo 61)).drew.heap[w9.heap.size + 1 + 1]? = some (.cells rowo 61 (0, 0)) := by rw [← HZ8.out]; exact heap_alloc_new ((w9.alloc (.cells #[.slice none 0 0, .int .i64 0, .int .i64 0, .pointer none, .pointer none, .int .i64 0, .int .i64 0, .bool false, .nilIface] 58)).alloc (.cells #[Pw w9.heap.size] 61)) (.cells rowo 61)
  have hab : (((w9.alloc (.cells #[.slice none 0 0, .int .i64 0, .int .i64 0, .pointer none, .pointer none, .int .i64 0, .int .i64 0, .bool false, .nilIface] 58)).alloc (.cells #[Pw w9.heap.size] 61)).alloc (.cells rowo 61)).drew.heap[w9.heap.size]? = some (.cells zeroW 58 (0, 0)) := (alloc_lt (w := ((w9.alloc (.cells #[.slice none 0 0, .int .i64 0, .int .i64 0, .pointer none, .pointer none, .int .i64 0, .int .i64 0, .bool false, .nilIface] 58)).alloc (.cells #[Pw w9.heap.size] 61))) (ob := .cells rowo 61) (heap_lt HA8.out)).trans HA8.out
  obtain ⟨w10, hw10⟩ : ∃ wN, wN = (((w9.alloc (.cells #[.slice none 0 0, .int .i64 0, .int .i64 0, .pointer none, .pointer none, .int .i64 0, .int .i64 0, .bool false, .nilIface] 58)).alloc (.cells #[Pw w9.heap.size] 61)).alloc (.cells rowo 61)).drew := ⟨_, rfl⟩
  rw [← hw10] at hbr hrw hab ⊢
  have HRo := Lib.hid hrw; have HABo := Lib.hid hab; have HBRo := Lib.hid hbr; have HRRo := Lib.hid (And.intro r0 (And.intro r1 r2))
  clear hbr hrw hab hw10 HB8 HZ8 HA8 k0 k1 k2 r0 r1 r2
  generalize w9.heap.size + 1 + 1 = LNo at *
  clear zc2
  have hb70 : Below w7.heap.size w7 w10 := HBRe.out.trans (HBRo.out.mono HBRe.out.size)
  have hel : ∀ i : Nat, i < 3 → ∃ v1 v2, w10.cell? ⟨LNe, i, none⟩ = some v1 ∧ w10.cell? ⟨LNo, i, none⟩ = some v2 ∧ VE w10 v1 ∧ VO w10 v2 := fun i hi => by
    have hr1 := (HBRo.out.block _ (heap_lt HRe.out)).trans HRe.out
    rcases (show i = 0 ∨ i = 1 ∨ i = 2 by omega) with rfl | rfl | rfl
    · exact ⟨_, _, cell_at hr1 HRRe.out.1, cell_at HRo.out HRRo.out.1, ve_nil _, vo_nil _⟩
    · exact ⟨_, _, cell_at hr1 HRRe.out.2.1, cell_at HRo.out HRRo.out.2.1, (ve_blk HV7.out).new hb70, (vo_blk HO7.out).new hb70⟩
    · exact ⟨_, _, cell_at hr1 HRRe.out.2.2, cell_at HRo.out HRRo.out.2.2, ve_blk ((HBRo.out.block _ (heap_lt HABe.out)).trans HABe.out), vo_blk HABo.out⟩
  have HEL := Lib.hid hel; have HB70 := Lib.hid hb70
  clear hel hb70 HRe HRo HRRe HRRo HABe HABo HBRe HBRo HQ9 HNN HNO
  have hp9 : ∀ W, Below w10.heap.size w10 W → W.cell? ⟨PB, 0, none⟩ = some (Pw X.wB) := fun W hW => bcell (HB70.out.trans (hW.mono HB70.out.size)) (cell_row HP7.out 0)
  have HP9 := Lib.hid hp9
  clear hp9
  go_wp2_with fail
  go_loopg [13, 14, 15] 3 (fun q s13 s14 s15 wx => ∃ i : Nat, i ≤ 3 ∧ q = 3 - i ∧ s13 = .int .i64 (i : Int) ∧ Below w10.heap.size w10 wx)
  case atStart => exact ⟨0, by omega, rfl, rfl, Below.refl _ _⟩
  case round =>
    obtain ⟨i, hi, rfl, rfl, hbx⟩ := hrel
    by_cases hin : i < 3
    · obtain ⟨v1, v2, hv1, hv2, hve, hvo⟩ := HEL.out i hin
      have hu2 : wr.cell? ⟨LNo, i, none⟩ = some v2 := bcell hbx hv2
      have hi5 : (i : Int) < 3 := by omega
      have d4 : decide ((i : Int) < 3) = true := decide_eq_true hi5
      have HVE := Lib.hid (hve.new hbx); have HVO := Lib.hid (hvo.new hbx); have HBX := Lib.hid hbx; have HV1 := Lib.hid (bcell hbx hv1)
      clear hbx hve hvo hv1 hv2
      go_upto_region 16 with (go_at_call 15; refine (HVO.out _ (Below.refl _ _)).1.mono ?_; rintro e w11 ⟨rfl, hb11⟩; have HB11 := Lib.hid hb11; clear hb11)
      obtain ⟨w12, hw12⟩ : ∃ w12, w12 = w11.alloc (.cells #[.int .i64 0, .int .i64 0] 27) := ⟨_, rfl⟩
      obtain ⟨XB, hXB⟩ : ∃ XB, XB = w11.heap.size := ⟨_, rfl⟩
      have hx : w12.heap[XB]? = some (.cells #[.int .i64 0, .int .i64 0] 27 (0, 0)) := by rw [hw12]; exact alloc_at hXB
      have hb12 : Below wr.heap.size wr w12 := by rw [hw12]; exact HB11.out.alloc HB11.out.size _
      rw [← hw12, ← hXB]
      have HC12 : Hid ((fun w' => w'.cell? ⟨LNe, i, none⟩ = some v1 ∧ w'.cell? ⟨LNo, i, none⟩ = some v2 ∧ w'.cell? ⟨PB, 0, none⟩ = some (Pw X.wB) ∧ w'.cell? ⟨XB, 0, none⟩ = some (.int .i64 0) ∧ w'.cell? ⟨XB, 1, none⟩ = some (.int .i64 0)) w12.drew) := Lib.hid ⟨bcell hb12.drew HV1.out, bcell hb12.drew hu2, HP9.out w12.drew (HBX.out.trans (hb12.drew.mono HBX.out.size)), cell_row hx 0, cell_row hx 1⟩
      have HC49 := Lib.hid hb12.drew; have HIN := Lib.hid hin
      clear hw12 hXB hx hb12 hu2 HB11 HV1 hin
      refine wp_region_held_drew (S := fun w' => w'.cell? ⟨LNe, i, none⟩ = some v1 ∧ w'.cell? ⟨LNo, i, none⟩ = some v2 ∧ w'.cell? ⟨PB, 0, none⟩ = some (Pw X.wB) ∧ w'.cell? ⟨XB, 0, none⟩ = some (.int .i64 0) ∧ w'.cell? ⟨XB, 1, none⟩ = some (.int .i64 0)) (by kernel_rfl) ?_ (fun hHeld => ?_)
      · exact HC12.out
      refine tA 0 ⟨some 84, .move (.tmp 11), 60, "law.go:104", #[], none⟩ ?vdnm1 ?rdnm1
      (try simp only [Act.put, tC, tD, tE])
      refine tA 1 ⟨some 85, .move (.tmp 13), 3, "law.go:104", #[], none⟩ ?vdnm2 ?rdnm2
      (try simp only [Act.put, tC, tD, tE])
      refine tA 2 ⟨some 86, .indexAddr 60 (.tmp 84) (.tmp 85), 0, "law.go:104", #[⟨0, .data⟩, ⟨1, .data⟩], none⟩ ?vdnm3 ?rdnm3
      (try simp only [Act.put, tC, tD, tE])
      refine tA 3 ⟨some 87, .load 59 (.tmp 86), 59, "law.go:104", #[⟨2, .data⟩], none⟩ ?vdnm4 ?rdnm4
      (try simp only [Act.put, tC, tD, tE])
      refine wpAnyH_ready (rs := [4]) (by kernel_rfl) (by simp) ?_
      refine AllReadyH.cons (o := ⟨some 88, .call ⟨.value (.func 16), #[.tmp 87], #[59]⟩, 4, "law.go:104", #[⟨3, .data⟩], none⟩) rfl (fun Kq hKq => ?_) AllReadyH.nil
      go_simp
      (refine ((HVE.out _ HC49.out).2.1).mono ?_; rintro e w50 ⟨rfl, hb50⟩; have HB50 := Lib.hid hb50; have HC50 := Lib.hid (HC49.out.trans (hb50.mono HC49.out.size)); clear hb50)
      refine hKq.out _ _ ?_ (fun hHeld => ?_)
      · exact ⟨bcell HB50.out hHeld.1, bcell HB50.out hHeld.2.1, bcell HB50.out hHeld.2.2.1, bcell HB50.out hHeld.2.2.2.1, bcell HB50.out hHeld.2.2.2.2⟩
      clear hKq Kq
      (try simp only [Act.put, tC, tD, tE])
      refine tA 5 ⟨some 89, .unOp .not 4 (.tmp 88), 4, "law.go:104", #[⟨4, .data⟩], none⟩ ?vdnm5 ?rdnm5
      (try simp only [Act.put, tC, tD, tE])
      refine tA 6 ⟨some 90, .move (.tmp 89), 4, "law.go:104", #[⟨5, .data⟩, ⟨4, .chain⟩], none⟩ ?vdnm6 ?rdnm6
      (try simp only [Act.put, tC, tD, tE])
      refine tA 7 ⟨some 91, .move (.tmp 11), 60, "law.go:104", #[⟨6, .guard⟩], some (6, false)⟩ ?vdnm7 ?rdnm7
      (try simp only [Act.put, tC, tD, tE])
      refine tA 8 ⟨some 92, .move (.tmp 13), 3, "law.go:104", #[⟨6, .guard⟩], some (6, false)⟩ ?vdnm8 ?rdnm8
      (try simp only [Act.put, tC, tD, tE])
      refine tA 9 ⟨some 93, .indexAddr 60 (.tmp 91) (.tmp 92), 0, "law.go:104", #[⟨7, .data⟩, ⟨8, .data⟩, ⟨6, .guard⟩], some (6, false)⟩ ?vdnm9 ?rdnm9
      (try simp only [Act.put, tC, tD, tE])
      refine tA 10 ⟨some 94, .load 59 (.tmp 93), 59, "law.go:104", #[⟨9, .data⟩, ⟨6, .guard⟩], some (6, false)⟩ ?vdnm10 ?rdnm10
      (try simp only [Act.put, tC, tD, tE])
      refine tA 11 ⟨some 95, .fieldAddr 38 (.tmp 8) 0, 0, "law.go:104", #[⟨6, .guard⟩], some (6, false)⟩ ?vdnm11 ?rdnm11
      (try simp only [Act.put, tC, tD, tE])
      refine tA 12 ⟨some 96, .load 35 (.tmp 95), 35, "law.go:104", #[⟨11, .data⟩, ⟨6, .guard⟩], some (6, false)⟩ ?vdnm12 ?rdnm12
      (try simp only [Act.put, tC, tD, tE])
      refine wpAnyH_ready (rs := [13]) (by kernel_rfl) (by simp) ?_
      refine AllReadyH.cons (o := ⟨some 97, .call ⟨.value (.func 17), #[.tmp 94, .tmp 96], #[59, 35]⟩, 4, "law.go:104", #[⟨10, .data⟩, ⟨12, .data⟩, ⟨6, .chain⟩, ⟨6, .guard⟩], some (6, false)⟩) rfl (fun Kq hKq => ?_) AllReadyH.nil
      go_simp
      (refine ((HVE.out _ HC50.out).2.2 _).mono ?_; rintro e w51 ⟨rfl, hb51⟩; have HB51 := Lib.hid hb51; have HC51 := Lib.hid (HC50.out.trans (hb51.mono HC50.out.size)); clear hb51)
      refine hKq.out _ _ ?_ (fun hHeld => ?_)
      · exact ⟨bcell HB51.out hHeld.1, bcell HB51.out hHeld.2.1, bcell HB51.out hHeld.2.2.1, bcell HB51.out hHeld.2.2.2.1, bcell HB51.out hHeld.2.2.2.2⟩
      clear hKq Kq
      (try simp only [Act.put, tC, tD, tE])
      refine tA 14 ⟨some 98, .unOp .not 4 (.tmp 97), 4, "law.go:104", #[⟨13, .data⟩, ⟨6, .guard⟩], some (6, false)⟩ ?vdnm13 ?rdnm13
      (try simp only [Act.put, tC, tD, tE])
      refine tA 15 ⟨some 99, .pick (.tmp 90) (.const (.bool true)) (.tmp 98), 4, "law.go:104", #[⟨6, .data⟩, ⟨14, .data⟩], none⟩ ?vdnm14 ?rdnm14
      (try simp only [Act.put, tC, tD, tE])
      refine tA 16 ⟨some 100, .move (.tmp 99), 4, "law.go:104", #[⟨15, .data⟩, ⟨13, .chain⟩], none⟩ ?vdnm15 ?rdnm15
      (try simp only [Act.put, tC, tD, tE])
      refine tA 17 ⟨some 101, .move (.tmp 11), 60, "law.go:104", #[⟨16, .guard⟩], some (16, false)⟩ ?vdnm16 ?rdnm16
      (try simp only [Act.put, tC, tD, tE])
      refine tA 18 ⟨some 102, .move (.tmp 13), 3, "law.go:104", #[⟨16, .guard⟩], some (16, false)⟩ ?vdnm17 ?rdnm17
      (try simp only [Act.put, tC, tD, tE])
      refine tA 19 ⟨some 103, .indexAddr 60 (.tmp 101) (.tmp 102), 0, "law.go:104", #[⟨17, .data⟩, ⟨18, .data⟩, ⟨16, .guard⟩], some (16, false)⟩ ?vdnm18 ?rdnm18
      (try simp only [Act.put, tC, tD, tE])
      refine tA 20 ⟨some 104, .load 59 (.tmp 103), 59, "law.go:104", #[⟨19, .data⟩, ⟨16, .guard⟩], some (16, false)⟩ ?vdnm19 ?rdnm19
      (try simp only [Act.put, tC, tD, tE])
      refine tA 22 ⟨some 106, .build 27 #[], 27, "law.go:104", #[⟨16, .guard⟩], some (16, false)⟩ ?vdnm20 ?rdnm20
      (try simp only [Act.put, tC, tD, tE])
      refine wpAnyH_ready (rs := [21]) (by kernel_rfl) (by simp) ?_
      refine AllReadyH.cons (o := ⟨some 105, .call ⟨.value (.func 18), #[.tmp 104], #[59]⟩, 27, "law.go:104", #[⟨20, .data⟩, ⟨16, .chain⟩, ⟨16, .guard⟩], some (16, false)⟩) rfl (fun Kq hKq => ?_) AllReadyH.nil
      go_simp
      (refine ((HVE.out _ HC51.out).1).mono ?_; rintro e w52 ⟨rfl, hb52⟩; have HB52 := Lib.hid hb52; have HC52 := Lib.hid (HC51.out.trans (hb52.mono HC51.out.size)); clear hb52)
      refine hKq.out _ _ ?_ (fun hHeld => ?_)
      · exact ⟨bcell HB52.out hHeld.1, bcell HB52.out hHeld.2.1, bcell HB52.out hHeld.2.2.1, bcell HB52.out hHeld.2.2.2.1, bcell HB52.out hHeld.2.2.2.2⟩
      clear hKq Kq
      (try simp only [Act.put, tC, tD, tE])
      refine tA 23 ⟨some 107, .binOp .neq 27 (.tmp 105) (.tmp 106) 27, 4, "law.go:104", #[⟨21, .data⟩, ⟨22, .data⟩, ⟨16, .guard⟩], some (16, false)⟩ ?vdnm21 ?rdnm21
      (try simp only [Act.put, tC, tD, tE])
      refine tA 24 ⟨some 108, .pick (.tmp 100) (.const (.bool true)) (.tmp 107), 4, "law.go:104", #[⟨16, .data⟩, ⟨23, .data⟩], none⟩ ?vdnm22 ?rdnm22
      (try simp only [Act.put, tC, tD, tE])
      refine tA 25 ⟨some 109, .move (.tmp 108), 4, "law.go:104", #[⟨24, .data⟩, ⟨21, .chain⟩], none⟩ ?vdnm23 ?rdnm23
      (try simp only [Act.put, tC, tD, tE])
      refine tA 26 ⟨some 110, .move (.tmp 12), 62, "law.go:104", #[⟨25, .guard⟩], some (25, false)⟩ ?vdnm24 ?rdnm24
      (try simp only [Act.put, tC, tD, tE])
      refine tA 27 ⟨some 111, .move (.tmp 13), 3, "law.go:104", #[⟨25, .guard⟩], some (25, false)⟩ ?vdnm25 ?rdnm25
      (try simp only [Act.put, tC, tD, tE])
      refine tA 28 ⟨some 112, .indexAddr 62 (.tmp 110) (.tmp 111), 0, "law.go:104", #[⟨26, .data⟩, ⟨27, .data⟩, ⟨25, .guard⟩], some (25, false)⟩ ?vdnm26 ?rdnm26
      (try simp only [Act.put, tC, tD, tE])
      refine tA 29 ⟨some 113, .load 61 (.tmp 112), 61, "law.go:104", #[⟨28, .data⟩, ⟨25, .guard⟩], some (25, false)⟩ ?vdnm27 ?rdnm27
      (try simp only [Act.put, tC, tD, tE])
      refine wpAnyH_ready (rs := [30]) (by kernel_rfl) (by simp) ?_
      refine AllReadyH.cons (o := ⟨some 114, .call ⟨.value (.func 19), #[.tmp 113], #[61]⟩, 4, "law.go:104", #[⟨29, .data⟩, ⟨25, .chain⟩, ⟨25, .guard⟩], some (25, false)⟩) rfl (fun Kq hKq => ?_) AllReadyH.nil
      go_simp
      (refine ((HVO.out _ HC52.out).2.1).mono ?_; rintro e w53 ⟨rfl, hb53⟩; have HB53 := Lib.hid hb53; have HC53 := Lib.hid (HC52.out.trans (hb53.mono HC52.out.size)); clear hb53)
      refine hKq.out _ _ ?_ (fun hHeld => ?_)
      · exact ⟨bcell HB53.out hHeld.1, bcell HB53.out hHeld.2.1, bcell HB53.out hHeld.2.2.1, bcell HB53.out hHeld.2.2.2.1, bcell HB53.out hHeld.2.2.2.2⟩
      clear hKq Kq
      (try simp only [Act.put, tC, tD, tE])
      refine tA 31 ⟨some 115, .unOp .not 4 (.tmp 114), 4, "law.go:104", #[⟨30, .data⟩, ⟨25, .guard⟩], some (25, false)⟩ ?vdnm28 ?rdnm28
      (try simp only [Act.put, tC, tD, tE])
      refine tA 32 ⟨some 116, .pick (.tmp 109) (.const (.bool true)) (.tmp 115), 4, "law.go:104", #[⟨25, .data⟩, ⟨31, .data⟩], none⟩ ?vdnm29 ?rdnm29
      (try simp only [Act.put, tC, tD, tE])
      refine tA 33 ⟨some 117, .move (.tmp 116), 4, "law.go:104", #[⟨32, .data⟩, ⟨30, .chain⟩], none⟩ ?vdnm30 ?rdnm30
      (try simp only [Act.put, tC, tD, tE])
      refine tA 34 ⟨some 118, .move (.tmp 12), 62, "law.go:104", #[⟨33, .guard⟩], some (33, false)⟩ ?vdnm31 ?rdnm31
      (try simp only [Act.put, tC, tD, tE])
      refine tA 35 ⟨some 119, .move (.tmp 13), 3, "law.go:104", #[⟨33, .guard⟩], some (33, false)⟩ ?vdnm32 ?rdnm32
      (try simp only [Act.put, tC, tD, tE])
      refine tA 36 ⟨some 120, .indexAddr 62 (.tmp 118) (.tmp 119), 0, "law.go:104", #[⟨34, .data⟩, ⟨35, .data⟩, ⟨33, .guard⟩], some (33, false)⟩ ?vdnm33 ?rdnm33
      (try simp only [Act.put, tC, tD, tE])
      refine tA 37 ⟨some 121, .load 61 (.tmp 120), 61, "law.go:104", #[⟨36, .data⟩, ⟨33, .guard⟩], some (33, false)⟩ ?vdnm34 ?rdnm34
      (try simp only [Act.put, tC, tD, tE])
      refine tA 38 ⟨some 122, .fieldAddr 38 (.tmp 8) 0, 0, "law.go:104", #[⟨33, .guard⟩], some (33, false)⟩ ?vdnm35 ?rdnm35
      (try simp only [Act.put, tC, tD, tE])
      refine tA 39 ⟨some 123, .load 35 (.tmp 122), 35, "law.go:104", #[⟨38, .data⟩, ⟨33, .guard⟩], some (33, false)⟩ ?vdnm36 ?rdnm36
      (try simp only [Act.put, tC, tD, tE])
      refine wpAnyH_ready (rs := [40]) (by kernel_rfl) (by simp) ?_
      refine AllReadyH.cons (o := ⟨some 124, .call ⟨.value (.func 20), #[.tmp 121, .tmp 123], #[61, 35]⟩, 4, "law.go:104", #[⟨37, .data⟩, ⟨39, .data⟩, ⟨33, .chain⟩, ⟨33, .guard⟩], some (33, false)⟩) rfl (fun Kq hKq => ?_) AllReadyH.nil
      go_simp
      (refine ((HVO.out _ HC53.out).2.2 _).mono ?_; rintro e w54 ⟨rfl, hb54⟩; have HB54 := Lib.hid hb54; have HC54 := Lib.hid (HC53.out.trans (hb54.mono HC53.out.size)); clear hb54)
      refine hKq.out _ _ ?_ (fun hHeld => ?_)
      · exact ⟨bcell HB54.out hHeld.1, bcell HB54.out hHeld.2.1, bcell HB54.out hHeld.2.2.1, bcell HB54.out hHeld.2.2.2.1, bcell HB54.out hHeld.2.2.2.2⟩
      clear hKq Kq
      (try simp only [Act.put, tC, tD, tE])
      refine tA 41 ⟨some 125, .unOp .not 4 (.tmp 124), 4, "law.go:104", #[⟨40, .data⟩, ⟨33, .guard⟩], some (33, false)⟩ ?vdnm37 ?rdnm37
      (try simp only [Act.put, tC, tD, tE])
      refine tA 42 ⟨some 126, .pick (.tmp 117) (.const (.bool true)) (.tmp 125), 4, "law.go:104", #[⟨33, .data⟩, ⟨41, .data⟩], none⟩ ?vdnm38 ?rdnm38
      (try simp only [Act.put, tC, tD, tE])
      refine tA 43 ⟨some 127, .move (.tmp 126), 4, "law.go:104", #[⟨42, .data⟩, ⟨40, .chain⟩], none⟩ ?vdnm39 ?rdnm39
      (try simp only [Act.put, tC, tD, tE])
      refine tA 44 ⟨some 128, .load 27 (.tmp 14), 27, "law.go:104", #[⟨43, .guard⟩], some (43, false)⟩ ?vdnm40 ?rdnm40
      (try simp only [Act.put, tC, tD, tE])
      refine tA 45 ⟨some 129, .build 27 #[], 27, "law.go:104", #[⟨43, .guard⟩], some (43, false)⟩ ?vdnm41 ?rdnm41
      (try simp only [Act.put, tC, tD, tE])
      refine tA 46 ⟨some 130, .binOp .neq 27 (.tmp 128) (.tmp 129) 27, 4, "law.go:104", #[⟨44, .data⟩, ⟨45, .data⟩, ⟨43, .guard⟩], some (43, false)⟩ ?vdnm42 ?rdnm42
      (try simp only [Act.put, tC, tD, tE])
      refine tA 47 ⟨some 131, .pick (.tmp 127) (.const (.bool true)) (.tmp 130), 4, "law.go:104", #[⟨43, .data⟩, ⟨46, .data⟩], none⟩ ?vdnm43 ?rdnm43
      (try simp only [Act.put, tC, tD, tE])
      refine tA 48 ⟨some 132, .move (.tmp 131), 4, "law.go:104", #[⟨47, .data⟩, ⟨43, .chain⟩], none⟩ ?vdnm44 ?rdnm44
      (try simp only [Act.put, tC, tD, tE])
      refine tA 49 ⟨some 133, .move (.tmp 15), 24, "law.go:104", #[⟨48, .guard⟩], some (48, false)⟩ ?vdnm45 ?rdnm45
      (try simp only [Act.put, tC, tD, tE])
      refine tA 50 ⟨some 134, .binOp .neq 24 (.tmp 133) (.const (.int .u32 0)) 24, 4, "law.go:104", #[⟨49, .data⟩, ⟨48, .guard⟩], some (48, false)⟩ ?vdnm46 ?rdnm46
      (try simp only [Act.put, tC, tD, tE])
      refine tA 51 ⟨some 135, .pick (.tmp 132) (.const (.bool true)) (.tmp 134), 4, "law.go:104", #[⟨48, .data⟩, ⟨50, .data⟩], none⟩ ?vdnm47 ?rdnm47
      (try simp only [Act.put, tC, tD, tE])
      refine wpAnyH_done (by kernel_rfl) ?_ _
      clear hHeld
      go_wp2_with fail
      go_roundg (3 - (i + 1))
      case measure => have := HIN.out; omega
      case rel => exact ⟨i + 1, by have := HIN.out; omega, rfl, by go_num, HBX.out.trans (HC54.out.mono HBX.out.size)⟩
    · obtain rfl : i = 3 := by omega
      have HBX := Lib.hid hbx
      clear hbx hin hi
      go_upto_region 19 with (go_at_call 13; refine (HNE.out _).mono ?_; rintro e w20 ⟨v, rfl, hne⟩)
      obtain ⟨Z, rfl, hwa, hb20, hzi, _⟩ := hne
      have hb720 : Below w7.heap.size w7 w20 := (HB70.out.trans (HBX.out.mono HB70.out.size)).trans (hb20.mono (Nat.le_trans HB70.out.size HBX.out.size))
      have e0 : w20.cell? ⟨Z.B, 0, none⟩ = some (.slice (some ⟨Z.PB, 0, none⟩) 4 4) := cell_row hwa.b 0
      have e1 : w20.cell? ⟨Z.B, 1, none⟩ = some (.int .i64 0) := by rw [← hzi]; exact cell_row hwa.b 1
      have HEO := Lib.hid (fun (W : World) (hb : Below w20.heap.size w20 W) => eover_s (bcell hb e0) (bcell hb e1)); have HES := Lib.hid (fun (W : World) (hb : Below w20.heap.size w20 W) => estep_s (bcell hb e0) (bcell hb e1))
      have HSA := Lib.hid (fun (W : World) (hb : Below w20.heap.size w20 W) => pair_all ((HB7.out.new hb720).new hb) (by omega) (by omega))
      have HPF := Lib.hid (fun (W : World) (hb : Below w20.heap.size w20 W) => (And.intro (show W.cell? ⟨PB, 0, none⟩ = some (Pw X.wB) from bcell (hb720.trans (hb.mono hb720.size)) (cell_row HP7.out 0)) (show W.cell? ⟨PB, 1, none⟩ = some (Pw Y.wB) from bcell (hb720.trans (hb.mono hb720.size)) (cell_row HP7.out 1))))
      have HBZ := Lib.hid (HB1.out.trans ((HBW.out.trans (hb720.mono HBW.out.size)).mono HB1.out.size))
      clear hwa hb20 hb720 hzi e0 e1 HEL HP9 HBX HNE
      go_wp2_with (first
        | (go_at_call 17; refine (HES.out _ (Below.refl _ _)).mono ?_; rintro e w70 ⟨rfl, hb70⟩; have HC70 := Lib.hid hb70; clear hb70)
        | (go_at_call 16; refine (HEO.out _ HC70.out).mono ?_; rintro e w71 ⟨rfl, hb71⟩; have HC71 := Lib.hid (HC70.out.trans (hb71.mono HC70.out.size)); obtain ⟨c0, c1⟩ := HPF.out _ HC71.out; clear hb71)
        | (go_at_call 21; refine (HSA.out _ HC71.out).mono ?_; rintro e w72 ⟨rfl, hb72⟩; have HC72 := Lib.hid (HC71.out.trans (hb72.mono HC71.out.size)); clear hb72)
        | (go_at_call 22; refine (HLV.out _).mono ?_; rintro e w73 ⟨rfl, hb73⟩; have HC73 := Lib.hid (HC72.out.trans (hb73.mono HC72.out.size)); clear hb73))
      go_ret
      exact ⟨rfl, HBZ.out.trans (HC73.out.mono HBZ.out.size)⟩
theorem law_any_big (u key : Nat) (z0 z1 t : Int) (hu : u < 18446744073709551616) (hk : key < 4294967296) (ht : 64 ≤ t) (w : World) : Calls Tryz.prog 3 #[.int .u64 (u : Int), .int .u32 (key : Int), .agg #[.int .i64 z0, .int .i64 z1, .int .i64 t]] w fun e w' => e = .returned (.bool true) ∧ Below w.heap.size w w' := by
  have HBG := Lib.hid (fun W => S14.begin_void W)
  have HLV := Lib.hid (fun W => lives15 W)
  have HNE : Hid (∀ W, Calls Tryz.prog 13 #[.int .i64 5, .int .u32 (key : Int)] W fun e w' => ∃ v, e = .returned v ∧ NewE W w' false 5 key v) := Lib.hid (fun W => new_enter 5 key (by omega) hk W)
  have HBI := Lib.hid (fun W => bits_any u hu W); have HRB := Lib.hid (fun W => rbits_any u W)
  have hpl := fun W => place_any key u hk hu W
  have hrp := fun W => rplace_any key u hk W
  unfold placeV at hpl hrp
  have HPL := Lib.hid hpl; have HRP := Lib.hid hrp; have HLK := Lib.hid (fun W => lockOf_any z0 z1 W); have HRL := Lib.hid (fun W => rlockOf_any z0 z1 W); have HOT := Lib.hid (fun b i W => S10.otherP_any b i W)
  generalize bitsN u = bn at *
  generalize bktN key u = bk at *
  generalize S10.lockZ z0 z1 = lz at *
  have HNN := Lib.hid (fun W => new_enter_none (t := t) (by omega) key W)
  have HNO := Lib.hid (fun W => new_own_none (t := t) (by omega) W)
  have d1 : decide (t < 0) = false := decide_eq_false (by omega)
  have d2 : decide (64 ≤ t) = true := decide_eq_true ht
  have hnq := neqR (bn : Int) (bk : Int)
  have hnp := neqP2 0 0
  clear ht hu hk hpl hrp
  go_enter Tryz.func3, Tryz.ntmps3
  go_upto_region 2 with (fail)
  obtain ⟨w1, hw1⟩ : ∃ w1, w1 = (w.alloc (.cells #[.int .i64 z0, .int .i64 z1, .int .i64 t] 25)).alloc (.cells #[.int .i64 z0, .int .i64 z1] 27) := ⟨_, rfl⟩
  obtain ⟨ZB, hZB⟩ : ∃ ZB, ZB = w.heap.size := ⟨_, rfl⟩
  have hz : w1.heap[ZB]? = some (.cells #[.int .i64 z0, .int .i64 z1, .int .i64 t] 25 (0, 0)) := by rw [hw1, alloc_lt (by rw [alloc_size, hZB]; omega)]; exact alloc_at hZB
  have hp : w1.heap[ZB + 1]? = some (.cells #[.int .i64 z0, .int .i64 z1] 27 (0, 0)) := by rw [hw1]; exact alloc_at (by rw [alloc_size, hZB])
  have hb1 : Below w.heap.size w w1 := by rw [hw1]; exact (below1 w _).alloc (by rw [alloc_size]; omega) _
  rw [← hw1, ← hZB]
  have HZ1 := Lib.hid hz; have HP1 := Lib.hid hp; have HB1 := Lib.hid hb1; have HC29 := Lib.hid ((Below.refl w1.heap.size w1).drew)
  clear hz hp hb1 hw1 hZB
  generalize ZB + 1 = PLB at *
  refine wp_region_held_drew (S := fun w' => w'.cell? ⟨PLB, 0, none⟩ = some (.int .i64 z0) ∧ w'.cell? ⟨PLB, 1, none⟩ = some (.int .i64 z1)) (by kernel_rfl) ?_ (fun hHeld => ?_)
  · exact ⟨cell_row HP1.out 0, cell_row HP1.out 1⟩
  refine tA 0 ⟨some 22, .move (.tmp 0), 22, "law.go:90", #[], none⟩ ?vcbm1 ?rcbm1
  (try simp only [Act.put, tC, tD, tE])
  refine tA 2 ⟨some 24, .move (.tmp 0), 22, "law.go:90", #[], none⟩ ?vcbm2 ?rcbm2
  (try simp only [Act.put, tC, tD, tE])
  refine wpAnyH_ready (rs := [1]) (by kernel_rfl) (by simp) ?_
  refine AllReadyH.cons (o := ⟨some 23, .call ⟨.value (.func 5), #[.tmp 22], #[22]⟩, 3, "law.go:90", #[⟨0, .data⟩], none⟩) rfl (fun Kq hKq => ?_) AllReadyH.nil
  go_simp
  (refine (HBI.out _).mono ?_; rintro e w30 ⟨rfl, rfl⟩)
  refine hKq.out _ _ ?_ (fun hHeld => ?_)
  · exact hHeld
  clear hKq Kq
  (try simp only [Act.put, tC, tD, tE])
  refine wpAnyH_ready (rs := [3]) (by kernel_rfl) (by simp) ?_
  refine AllReadyH.cons (o := ⟨some 25, .call ⟨.value (.func 6), #[.tmp 24], #[22]⟩, 3, "law.go:90", #[⟨2, .data⟩, ⟨1, .chain⟩], none⟩) rfl (fun Kq hKq => ?_) AllReadyH.nil
  go_simp
  (refine (HRB.out _).mono ?_; rintro e w31 ⟨rfl, rfl⟩)
  refine hKq.out _ _ ?_ (fun hHeld => ?_)
  · exact hHeld
  clear hKq Kq
  (try simp only [Act.put, tC, tD, tE])
  refine tA 4 ⟨some 26, .binOp .neq 3 (.tmp 23) (.tmp 25) 3, 4, "law.go:90", #[⟨1, .data⟩, ⟨3, .data⟩], none⟩ ?vcbm3 ?rcbm3
  (try simp only [Act.put, tC, tD, tE])
  refine tA 5 ⟨some 27, .move (.tmp 26), 4, "law.go:90", #[⟨4, .data⟩, ⟨3, .chain⟩], none⟩ ?vcbm4 ?rcbm4
  (try simp only [Act.put, tC, tD, tE])
  refine tA 6 ⟨some 28, .move (.tmp 1), 24, "law.go:90", #[⟨5, .guard⟩], some (5, false)⟩ ?vcbm5 ?rcbm5
  (try simp only [Act.put, tC, tD, tE])
  refine tA 7 ⟨some 29, .move (.tmp 0), 22, "law.go:90", #[⟨5, .guard⟩], some (5, false)⟩ ?vcbm6 ?rcbm6
  (try simp only [Act.put, tC, tD, tE])
  refine tA 10 ⟨some 32, .move (.tmp 1), 24, "law.go:90", #[⟨5, .guard⟩], some (5, false)⟩ ?vcbm7 ?rcbm7
  (try simp only [Act.put, tC, tD, tE])
  refine tA 11 ⟨some 33, .move (.tmp 0), 22, "law.go:90", #[⟨5, .guard⟩], some (5, false)⟩ ?vcbm8 ?rcbm8
  (try simp only [Act.put, tC, tD, tE])
  refine wpAnyH_ready (rs := [8]) (by kernel_rfl) (by simp) ?_
  refine AllReadyH.cons (o := ⟨some 30, .call ⟨.value (.func 8), #[.tmp 28, .tmp 29], #[24, 22]⟩, 27, "law.go:90", #[⟨6, .data⟩, ⟨7, .data⟩, ⟨5, .chain⟩, ⟨5, .guard⟩], some (5, false)⟩) rfl (fun Kq hKq => ?_) AllReadyH.nil
  go_simp
  (refine (HPL.out _).mono ?_; rintro e w32 ⟨rfl, hb32⟩; have HB32 := Lib.hid hb32; have HC32 := Lib.hid (HC29.out.trans (hb32.mono HC29.out.size)); clear hb32)
  refine hKq.out _ _ ?_ (fun hHeld => ?_)
  · exact ⟨bcell HB32.out hHeld.1, bcell HB32.out hHeld.2⟩
  clear hKq Kq
  (try simp only [Act.put, tC, tD, tE])
  refine wpAnyH_ready (rs := [9]) (by kernel_rfl) (by simp) ?_
  refine AllReadyH.cons (o := ⟨some 31, .call ⟨.value (.func 7), #[.tmp 30], #[27]⟩, 29, "law.go:90", #[⟨8, .data⟩, ⟨8, .chain⟩, ⟨5, .guard⟩], some (5, false)⟩) rfl (fun Kq hKq => ?_) AllReadyH.nil
  go_simp
  (refine (HOT.out _ _ _).mono ?_; rintro e w33 ⟨rfl, hb33⟩; have HB33 := Lib.hid hb33; have HC33 := Lib.hid (HC32.out.trans (hb33.mono HC32.out.size)); clear hb33)
  refine hKq.out _ _ ?_ (fun hHeld => ?_)
  · exact ⟨bcell HB33.out hHeld.1, bcell HB33.out hHeld.2⟩
  clear hKq Kq
  (try simp only [Act.put, tC, tD, tE])
  refine wpAnyH_ready (rs := [12]) (by kernel_rfl) (by simp) ?_
  refine AllReadyH.cons (o := ⟨some 34, .call ⟨.value (.func 9), #[.tmp 32, .tmp 33], #[24, 22]⟩, 29, "law.go:90", #[⟨10, .data⟩, ⟨11, .data⟩, ⟨9, .chain⟩, ⟨5, .guard⟩], some (5, false)⟩) rfl (fun Kq hKq => ?_) AllReadyH.nil
  go_simp
  (refine (HRP.out _).mono ?_; rintro e w34 ⟨rfl, hb34⟩; have HB34 := Lib.hid hb34; have HC34 := Lib.hid (HC33.out.trans (hb34.mono HC33.out.size)); clear hb34)
  refine hKq.out _ _ ?_ (fun hHeld => ?_)
  · exact ⟨bcell HB34.out hHeld.1, bcell HB34.out hHeld.2⟩
  clear hKq Kq
  (try simp only [Act.put, tC, tD, tE])
  refine tA 13 ⟨some 35, .binOp .neq 29 (.tmp 31) (.tmp 34) 29, 4, "law.go:90", #[⟨9, .data⟩, ⟨12, .data⟩, ⟨5, .guard⟩], some (5, false)⟩ ?vcbm9 ?rcbm9
  (try simp only [Act.put, tC, tD, tE])
  refine tA 14 ⟨some 36, .pick (.tmp 27) (.const (.bool true)) (.tmp 35), 4, "law.go:90", #[⟨5, .data⟩, ⟨13, .data⟩], none⟩ ?vcbm10 ?rcbm10
  (try simp only [Act.put, tC, tD, tE])
  refine tA 15 ⟨some 37, .move (.tmp 36), 4, "law.go:90", #[⟨14, .data⟩, ⟨12, .chain⟩], none⟩ ?vcbm11 ?rcbm11
  (try simp only [Act.put, tC, tD, tE])
  refine tA 16 ⟨some 38, .load 27 (.tmp 7), 27, "law.go:90", #[⟨15, .guard⟩], some (15, false)⟩ ?vcbm12 ?rcbm12
  (try simp only [Act.put, tC, tD, tE])
  refine tA 18 ⟨some 40, .load 27 (.tmp 7), 27, "law.go:90", #[⟨15, .guard⟩], some (15, false)⟩ ?vcbm13 ?rcbm13
  (try simp only [Act.put, tC, tD, tE])
  refine wpAnyH_ready (rs := [17]) (by kernel_rfl) (by simp) ?_
  refine AllReadyH.cons (o := ⟨some 39, .call ⟨.value (.func 10), #[.tmp 38], #[27]⟩, 24, "law.go:90", #[⟨16, .data⟩, ⟨15, .chain⟩, ⟨15, .guard⟩], some (15, false)⟩) rfl (fun Kq hKq => ?_) AllReadyH.nil
  go_simp
  (refine (HLK.out _).mono ?_; rintro e w35 ⟨rfl, hb35⟩; have HB35 := Lib.hid hb35; have HC35 := Lib.hid (HC34.out.trans (hb35.mono HC34.out.size)); clear hb35)
  refine hKq.out _ _ ?_ (fun hHeld => ?_)
  · exact ⟨bcell HB35.out hHeld.1, bcell HB35.out hHeld.2⟩
  clear hKq Kq
  (try simp only [Act.put, tC, tD, tE])
  refine wpAnyH_ready (rs := [19]) (by kernel_rfl) (by simp) ?_
  refine AllReadyH.cons (o := ⟨some 41, .call ⟨.value (.func 7), #[.tmp 40], #[27]⟩, 29, "law.go:90", #[⟨18, .data⟩, ⟨17, .chain⟩, ⟨15, .guard⟩], some (15, false)⟩) rfl (fun Kq hKq => ?_) AllReadyH.nil
  go_simp
  (refine (HOT.out _ _ _).mono ?_; rintro e w36 ⟨rfl, hb36⟩; have HB36 := Lib.hid hb36; have HC36 := Lib.hid (HC35.out.trans (hb36.mono HC35.out.size)); clear hb36)
  refine hKq.out _ _ ?_ (fun hHeld => ?_)
  · exact ⟨bcell HB36.out hHeld.1, bcell HB36.out hHeld.2⟩
  clear hKq Kq
  (try simp only [Act.put, tC, tD, tE])
  refine wpAnyH_ready (rs := [20]) (by kernel_rfl) (by simp) ?_
  refine AllReadyH.cons (o := ⟨some 42, .call ⟨.value (.func 11), #[.tmp 41], #[29]⟩, 24, "law.go:90", #[⟨19, .data⟩, ⟨19, .chain⟩, ⟨15, .guard⟩], some (15, false)⟩) rfl (fun Kq hKq => ?_) AllReadyH.nil
  go_simp
  (refine (HRL.out _).mono ?_; rintro e w37 ⟨rfl, hb37⟩; have HB37 := Lib.hid hb37; have HC37 := Lib.hid (HC36.out.trans (hb37.mono HC36.out.size)); clear hb37)
  refine hKq.out _ _ ?_ (fun hHeld => ?_)
  · exact ⟨bcell HB37.out hHeld.1, bcell HB37.out hHeld.2⟩
  clear hKq Kq
  (try simp only [Act.put, tC, tD, tE])
  refine tA 21 ⟨some 43, .binOp .neq 24 (.tmp 39) (.tmp 42) 24, 4, "law.go:90", #[⟨17, .data⟩, ⟨20, .data⟩, ⟨15, .guard⟩], some (15, false)⟩ ?vcbm14 ?rcbm14
  (try simp only [Act.put, tC, tD, tE])
  refine tA 22 ⟨some 44, .pick (.tmp 37) (.const (.bool true)) (.tmp 43), 4, "law.go:90", #[⟨15, .data⟩, ⟨21, .data⟩], none⟩ ?vcbm15 ?rcbm15
  (try simp only [Act.put, tC, tD, tE])
  refine wpAnyH_done (by kernel_rfl) ?_ _
  clear hHeld HBI HRB HPL HRP HLK HRL HOT hnq
  go_upto_region 9 with (go_at_call 12; refine (HBG.out _).mono ?_; rintro e w2 ⟨M, X, Y, rfl, hbg⟩)
  obtain ⟨w3, hw3⟩ : ∃ w3, w3 = w2.alloc (.cells #[Pw X.wB, Pw Y.wB] 38) := ⟨_, rfl⟩
  obtain ⟨w4, hw4⟩ : ∃ w4, w4 = w3.alloc (.cells #[.slice none 0 0, .int .i64 0, .int .i64 0, .pointer none, .pointer none, .int .i64 0, .int .i64 0, .bool false, .nilIface] 57) := ⟨_, rfl⟩
  obtain ⟨w5, hw5⟩ : ∃ w5, w5 = w4.alloc (.cells #[.slice none 0 0, .int .i64 0, .int .i64 0, .pointer none, .pointer none, .int .i64 0, .int .i64 0, .bool false, .nilIface] 58) := ⟨_, rfl⟩
  obtain ⟨w6, hw6⟩ : ∃ w6, w6 = w5.alloc (.cells #[.pointer none, Pw w3.heap.size] 59) := ⟨_, rfl⟩
  obtain ⟨w7, hw7⟩ : ∃ w7, w7 = w6.alloc (.cells #[.pointer none, Pw w4.heap.size] 61) := ⟨_, rfl⟩
  have z3 : w3.heap.size = w2.heap.size + 1 := by rw [hw3]; simp
  have z4 : w4.heap.size = w2.heap.size + 1 + 1 := by rw [hw4, alloc_size, z3]
  have z5 : w5.heap.size = w2.heap.size + 1 + 1 + 1 := by rw [hw5, alloc_size, z4]
  have z6 : w6.heap.size = w2.heap.size + 1 + 1 + 1 + 1 := by rw [hw6, alloc_size, z5]
  have b3 : Below w2.heap.size w2 w3 := by rw [hw3]; exact below1 _ _
  have b4 : Below w3.heap.size w3 w4 := by rw [hw4]; exact below1 _ _
  have b5 : Below w4.heap.size w4 w5 := by rw [hw5]; exact below1 _ _
  have b6 : Below w5.heap.size w5 w6 := by rw [hw6]; exact below1 _ _
  have b7 : Below w6.heap.size w6 w7 := by rw [hw7]; exact below1 _ _
  have q3 : w3.heap[w2.heap.size]? = some (.cells #[Pw X.wB, Pw Y.wB] 38 (0, 0)) := by rw [hw3]; exact heap_alloc_new _ _
  have q4 : w4.heap[w3.heap.size]? = some (.cells zeroW 57 (0, 0)) := by rw [hw4]; exact heap_alloc_new _ _
  have q5 : w5.heap[w4.heap.size]? = some (.cells zeroW 58 (0, 0)) := by rw [hw5]; exact heap_alloc_new _ _
  have q6 : w6.heap[w5.heap.size]? = some (.cells #[.pointer none, Pw w3.heap.size] 59 (0, 0)) := by rw [hw6]; exact heap_alloc_new _ _
  have q7 : w7.heap[w6.heap.size]? = some (.cells #[.pointer none, Pw w4.heap.size] 61 (0, 0)) := by rw [hw7]; exact heap_alloc_new _ _
  have b57 : Below w5.heap.size w5 w7 := b6.trans (b7.mono b6.size)
  have b47 : Below w4.heap.size w4 w7 := b5.trans (b57.mono b5.size)
  have b37 : Below w3.heap.size w3 w7 := b4.trans (b47.mono b4.size)
  have p7 := (b37.block _ (heap_lt q3)).trans q3
  have v7 := (b47.block _ (heap_lt q4)).trans q4
  have o7 := (b57.block _ (heap_lt q5)).trans q5
  have l7 := (b7.block _ (heap_lt q6)).trans q6
  have hbg7 := (((((hbg.new b3).new b4).new b5).new b6).new b7)
  have e7 : ((((w2.alloc (.cells #[Pw X.wB, Pw Y.wB] 38)).alloc (.cells #[.slice none 0 0, .int .i64 0, .int .i64 0, .pointer none, .pointer none, .int .i64 0, .int .i64 0, .bool false, .nilIface] 57)).alloc (.cells #[.slice none 0 0, .int .i64 0, .int .i64 0, .pointer none, .pointer none, .int .i64 0, .int .i64 0, .bool false, .nilIface] 58)).alloc (.cells #[.pointer none, Pw (w2.heap.size + 1)] 59)).alloc (.cells #[.pointer none, Pw (w2.heap.size + 1 + 1)] 61) = w7 := by rw [hw7, hw6, hw5, hw4, ← hw3, z3, ← hw4, z4]
  rw [e7]
  have hbw : Below w1.heap.size w1 w7 := HC37.out.trans (hbg7.bl.mono HC37.out.size)
  have HB7 := Lib.hid hbg7; have HP7 := Lib.hid p7; have HV7 := Lib.hid v7; have HO7 := Lib.hid o7; have HL7 := Lib.hid l7; have HQ7 := Lib.hid q7; have HBW := Lib.hid hbw; have HZ := Lib.hid (And.intro z3 (And.intro z4 (And.intro z5 z6)))
  clear hw3 hw4 hw5 hw6 hw7 z3 z4 z5 z6 b3 b4 b5 b6 b7 q3 q4 q5 q6 q7 p7 v7 o7 l7 hbg7 hbg e7 hbw b57 b47 b37 HBG
  rw [HZ.out.1] at HV7 HL7
  rw [HZ.out.2.1] at HO7 HQ7
  rw [HZ.out.2.2.1] at HL7
  rw [HZ.out.2.2.2] at HQ7
  clear HZ
  generalize w2.heap.size = PB at *
  generalize PB + 1 = EX at *
  generalize EX + 1 = OX at *
  generalize OX + 1 = L1 at *
  generalize L1 + 1 = L2 at *
  clear w3 w4 w5 w6
  have zc2 : w7.cell? ⟨ZB, 2, none⟩ = some (.int .i64 t) := bcell HBW.out (cell_row HZ1.out 2)
  go_upto_region 10 with (fail)
  have hA6 : (w7.alloc (.cells #[.slice none 0 0, .int .i64 0, .int .i64 0, .pointer none, .pointer none, .int .i64 0, .int .i64 0, .bool false, .nilIface] 57)).heap[w7.heap.size]? = some (.cells zeroW 57 (0, 0)) := heap_alloc_new _ _
  have hzA : (w7.alloc (.cells #[.slice none 0 0, .int .i64 0, .int .i64 0, .pointer none, .pointer none, .int .i64 0, .int .i64 0, .bool false, .nilIface] 57)).heap.size = w7.heap.size + 1 := alloc_size _ _
  have k0 : ((w7.alloc (.cells #[.slice none 0 0, .int .i64 0, .int .i64 0, .pointer none, .pointer none, .int .i64 0, .int .i64 0, .bool false, .nilIface] 57)).alloc (.cells #[Pw w7.heap.size] 59)).cell? ⟨L1, 0, none⟩ = some (.pointer none) := cell_row ((alloc_lt (Nat.lt_trans (heap_lt HL7.out) (by rw [alloc_size]; omega))).trans ((alloc_lt (heap_lt HL7.out)).trans HL7.out)) 0
  have k1 : ((w7.alloc (.cells #[.slice none 0 0, .int .i64 0, .int .i64 0, .pointer none, .pointer none, .int .i64 0, .int .i64 0, .bool false, .nilIface] 57)).alloc (.cells #[Pw w7.heap.size] 59)).cell? ⟨L1, 1, none⟩ = some (Pw EX) := cell_row ((alloc_lt (Nat.lt_trans (heap_lt HL7.out) (by rw [alloc_size]; omega))).trans ((alloc_lt (heap_lt HL7.out)).trans HL7.out)) 1
  have k2 : ((w7.alloc (.cells #[.slice none 0 0, .int .i64 0, .int .i64 0, .pointer none, .pointer none, .int .i64 0, .int .i64 0, .bool false, .nilIface] 57)).alloc (.cells #[Pw w7.heap.size] 59)).cell? ⟨w7.heap.size + 1, 0, none⟩ = some (Pw w7.heap.size) := by
    rw [← hzA]; exact cell_row (heap_alloc_new _ _) 0
  have hA8 : ((w7.alloc (.cells #[.slice none 0 0, .int .i64 0, .int .i64 0, .pointer none, .pointer none, .int .i64 0, .int .i64 0, .bool false, .nilIface] 57)).alloc (.cells #[Pw w7.heap.size] 59)).heap[w7.heap.size]? = some (.cells zeroW 57 (0, 0)) := (alloc_lt (heap_lt hA6)).trans hA6
  have hb8 : Below w7.heap.size w7 ((w7.alloc (.cells #[.slice none 0 0, .int .i64 0, .int .i64 0, .pointer none, .pointer none, .int .i64 0, .int .i64 0, .bool false, .nilIface] 57)).alloc (.cells #[Pw w7.heap.size] 59)) := (below1 w7 _).alloc (by rw [alloc_size]; omega) _
  have hz8 : ((w7.alloc (.cells #[.slice none 0 0, .int .i64 0, .int .i64 0, .pointer none, .pointer none, .int .i64 0, .int .i64 0, .bool false, .nilIface] 57)).alloc (.cells #[Pw w7.heap.size] 59)).heap.size = w7.heap.size + 1 + 1 := by rw [alloc_size, alloc_size]
  have HA8 := Lib.hid hA8; have HB8 := Lib.hid hb8; have HZ8 := Lib.hid hz8
  clear hA6 hzA hA8 hb8 hz8
  go_upto_region 11 with (first
    | (go_at_call 13; refine (HNN.out _).mono ?_; rintro e w8 ⟨rfl, rfl⟩)
    | (at_builtin; refine wpList_append_e (LB0 := L1) (LB1 := w7.heap.size + 1) (B := EX) (BX := w7.heap.size) k0 k1 k2 rfl _ _ rfl rfl rfl ?_; intro cce rowe r0 r1 r2))
  have hbr : Below w7.heap.size w7 (((w7.alloc (.cells #[.slice none 0 0, .int .i64 0, .int .i64 0, .pointer none, .pointer none, .int .i64 0, .int .i64 0, .bool false, .nilIface] 57)).alloc (.cells #[Pw w7.heap.size] 59)).alloc (.cells rowe 59)).drew := (HB8.out.alloc HB8.out.size _).drew
  have hrw : (((w7.alloc (.cells #[.slice none 0 0, .int .i64 0, .int .i64 0, .pointer none, .pointer none, .int .i64 0, .int .i64 0, .bool false, .nilIface] 57)).alloc (.cells #[Pw w7.heap.size] 59)).alloc (.cells rowe 59)).drew.heap[w7.heap.size + 1 + 1]? = some (.cells rowe 59 (0, 0)) := by rw [← HZ8.out]; exact heap_alloc_new ((w7.alloc (.cells #[.slice none 0 0, .int .i64 0, .int .i64 0, .pointer none, .pointer none, .int .i64 0, .int .i64 0, .bool false, .nilIface] 57)).alloc (.cells #[Pw w7.heap.size] 59)) (.cells rowe 59)
  have hab : (((w7.alloc (.cells #[.slice none 0 0, .int .i64 0, .int .i64 0, .pointer none, .pointer none, .int .i64 0, .int .i64 0, .bool false, .nilIface] 57)).alloc (.cells #[Pw w7.heap.size] 59)).alloc (.cells rowe 59)).drew.heap[w7.heap.size]? = some (.cells zeroW 57 (0, 0)) := (alloc_lt (w := ((w7.alloc (.cells #[.slice none 0 0, .int .i64 0, .int .i64 0, .pointer none, .pointer none, .int .i64 0, .int .i64 0, .bool false, .nilIface] 57)).alloc (.cells #[Pw w7.heap.size] 59))) (ob := .cells rowe 59) (heap_lt HA8.out)).trans HA8.out
  obtain ⟨w9, hw9⟩ : ∃ wN, wN = (((w7.alloc (.cells #[.slice none 0 0, .int .i64 0, .int .i64 0, .pointer none, .pointer none, .int .i64 0, .int .i64 0, .bool false, .nilIface] 57)).alloc (.cells #[Pw w7.heap.size] 59)).alloc (.cells rowe 59)).drew := ⟨_, rfl⟩
  rw [← hw9] at hbr hrw hab ⊢
  have HRe := Lib.hid hrw; have HABe := Lib.hid hab; have HBRe := Lib.hid hbr; have HRRe := Lib.hid (And.intro r0 (And.intro r1 r2))
  clear hbr hrw hab hw9 HB8 HZ8 HA8 k0 k1 k2 r0 r1 r2
  generalize w7.heap.size + 1 + 1 = LNe at *
  clear zc2
  have zc2 : w9.cell? ⟨ZB, 2, none⟩ = some (.int .i64 t) := bcell (HBW.out.trans (HBRe.out.mono HBW.out.size)) (cell_row HZ1.out 2)
  have hq9 := (HBRe.out.block _ (heap_lt HQ7.out)).trans HQ7.out
  have HQ9 := Lib.hid hq9
  clear hq9
  have hA6 : (w9.alloc (.cells #[.slice none 0 0, .int .i64 0, .int .i64 0, .pointer none, .pointer none, .int .i64 0, .int .i64 0, .bool false, .nilIface] 58)).heap[w9.heap.size]? = some (.cells zeroW 58 (0, 0)) := heap_alloc_new _ _
  have hzA : (w9.alloc (.cells #[.slice none 0 0, .int .i64 0, .int .i64 0, .pointer none, .pointer none, .int .i64 0, .int .i64 0, .bool false, .nilIface] 58)).heap.size = w9.heap.size + 1 := alloc_size _ _
  have k0 : ((w9.alloc (.cells #[.slice none 0 0, .int .i64 0, .int .i64 0, .pointer none, .pointer none, .int .i64 0, .int .i64 0, .bool false, .nilIface] 58)).alloc (.cells #[Pw w9.heap.size] 61)).cell? ⟨L2, 0, none⟩ = some (.pointer none) := cell_row ((alloc_lt (Nat.lt_trans (heap_lt HQ9.out) (by rw [alloc_size]; omega))).trans ((alloc_lt (heap_lt HQ9.out)).trans HQ9.out)) 0
  have k1 : ((w9.alloc (.cells #[.slice none 0 0, .int .i64 0, .int .i64 0, .pointer none, .pointer none, .int .i64 0, .int .i64 0, .bool false, .nilIface] 58)).alloc (.cells #[Pw w9.heap.size] 61)).cell? ⟨L2, 1, none⟩ = some (Pw OX) := cell_row ((alloc_lt (Nat.lt_trans (heap_lt HQ9.out) (by rw [alloc_size]; omega))).trans ((alloc_lt (heap_lt HQ9.out)).trans HQ9.out)) 1
  have k2 : ((w9.alloc (.cells #[.slice none 0 0, .int .i64 0, .int .i64 0, .pointer none, .pointer none, .int .i64 0, .int .i64 0, .bool false, .nilIface] 58)).alloc (.cells #[Pw w9.heap.size] 61)).cell? ⟨w9.heap.size + 1, 0, none⟩ = some (Pw w9.heap.size) := by
    rw [← hzA]; exact cell_row (heap_alloc_new _ _) 0
  have hA8 : ((w9.alloc (.cells #[.slice none 0 0, .int .i64 0, .int .i64 0, .pointer none, .pointer none, .int .i64 0, .int .i64 0, .bool false, .nilIface] 58)).alloc (.cells #[Pw w9.heap.size] 61)).heap[w9.heap.size]? = some (.cells zeroW 58 (0, 0)) := (alloc_lt (heap_lt hA6)).trans hA6
  have hb8 : Below w9.heap.size w9 ((w9.alloc (.cells #[.slice none 0 0, .int .i64 0, .int .i64 0, .pointer none, .pointer none, .int .i64 0, .int .i64 0, .bool false, .nilIface] 58)).alloc (.cells #[Pw w9.heap.size] 61)) := (below1 w9 _).alloc (by rw [alloc_size]; omega) _
  have hz8 : ((w9.alloc (.cells #[.slice none 0 0, .int .i64 0, .int .i64 0, .pointer none, .pointer none, .int .i64 0, .int .i64 0, .bool false, .nilIface] 58)).alloc (.cells #[Pw w9.heap.size] 61)).heap.size = w9.heap.size + 1 + 1 := by rw [alloc_size, alloc_size]
  have HA8 := Lib.hid hA8; have HB8 := Lib.hid hb8; have HZ8 := Lib.hid hz8
  clear hA6 hzA hA8 hb8 hz8
  go_upto_region 12 with (first
    | (go_at_call 14; refine (HNO.out _).mono ?_; rintro e w8 ⟨rfl, rfl⟩)
    | (at_builtin; refine wpList_append_o (LB0 := L2) (LB1 := w9.heap.size + 1) (B := OX) (BX := w9.heap.size) k0 k1 k2 rfl _ _ rfl rfl rfl ?_; intro cco rowo r0 r1 r2))
  have hbr : Below w9.heap.size w9 (((w9.alloc (.cells #[.slice none 0 0, .int .i64 0, .int .i64 0, .pointer none, .pointer none, .int .i64 0, .int .i64 0, .bool false, .nilIface] 58)).alloc (.cells #[Pw w9.heap.size] 61)).alloc (.cells rowo 61)).drew := (HB8.out.alloc HB8.out.size _).drew
  have hrw : (((w9.alloc (.cells #[.slice none 0 0, .int .i64 0, .int .i64 0, .pointer none, .pointer none, .int .i64 0, .int .i64 0, .bool false, .nilIface] 58)).alloc (.cells #[Pw w9.heap.size] 61)).alloc (.cells rowo 61)).drew.heap[w9.heap.size + 1 + 1]? = some (.cells rowo 61 (0, 0)) := by rw [← HZ8.out]; exact heap_alloc_new ((w9.alloc (.cells #[.slice none 0 0, .int .i64 0, .int .i64 0, .pointer none, .pointer none, .int .i64 0, .int .i64 0, .bool false, .nilIface] 58)).alloc (.cells #[Pw w9.heap.size] 61)) (.cells rowo 61)
  have hab : (((w9.alloc (.cells #[.slice none 0 0, .int .i64 0, .int .i64 0, .pointer none, .pointer none, .int .i64 0, .int .i64 0, .bool false, .nilIface] 58)).alloc (.cells #[Pw w9.heap.size] 61)).alloc (.cells rowo 61)).drew.heap[w9.heap.size]? = some (.cells zeroW 58 (0, 0)) := (alloc_lt (w := ((w9.alloc (.cells #[.slice none 0 0, .int .i64 0, .int .i64 0, .pointer none, .pointer none, .int .i64 0, .int .i64 0, .bool false, .nilIface] 58)).alloc (.cells #[Pw w9.heap.size] 61))) (ob := .cells rowo 61) (heap_lt HA8.out)).trans HA8.out
  obtain ⟨w10, hw10⟩ : ∃ wN, wN = (((w9.alloc (.cells #[.slice none 0 0, .int .i64 0, .int .i64 0, .pointer none, .pointer none, .int .i64 0, .int .i64 0, .bool false, .nilIface] 58)).alloc (.cells #[Pw w9.heap.size] 61)).alloc (.cells rowo 61)).drew := ⟨_, rfl⟩
  rw [← hw10] at hbr hrw hab ⊢
  have HRo := Lib.hid hrw; have HABo := Lib.hid hab; have HBRo := Lib.hid hbr; have HRRo := Lib.hid (And.intro r0 (And.intro r1 r2))
  clear hbr hrw hab hw10 HB8 HZ8 HA8 k0 k1 k2 r0 r1 r2
  generalize w9.heap.size + 1 + 1 = LNo at *
  clear zc2
  have hb70 : Below w7.heap.size w7 w10 := HBRe.out.trans (HBRo.out.mono HBRe.out.size)
  have hel : ∀ i : Nat, i < 3 → ∃ v1 v2, w10.cell? ⟨LNe, i, none⟩ = some v1 ∧ w10.cell? ⟨LNo, i, none⟩ = some v2 ∧ VE w10 v1 ∧ VO w10 v2 := fun i hi => by
    have hr1 := (HBRo.out.block _ (heap_lt HRe.out)).trans HRe.out
    rcases (show i = 0 ∨ i = 1 ∨ i = 2 by omega) with rfl | rfl | rfl
    · exact ⟨_, _, cell_at hr1 HRRe.out.1, cell_at HRo.out HRRo.out.1, ve_nil _, vo_nil _⟩
    · exact ⟨_, _, cell_at hr1 HRRe.out.2.1, cell_at HRo.out HRRo.out.2.1, (ve_blk HV7.out).new hb70, (vo_blk HO7.out).new hb70⟩
    · exact ⟨_, _, cell_at hr1 HRRe.out.2.2, cell_at HRo.out HRRo.out.2.2, ve_blk ((HBRo.out.block _ (heap_lt HABe.out)).trans HABe.out), vo_blk HABo.out⟩
  have HEL := Lib.hid hel; have HB70 := Lib.hid hb70
  clear hel hb70 HRe HRo HRRe HRRo HABe HABo HBRe HBRo HQ9 HNN HNO
  have hp9 : ∀ W, Below w10.heap.size w10 W → W.cell? ⟨PB, 0, none⟩ = some (Pw X.wB) := fun W hW => bcell (HB70.out.trans (hW.mono HB70.out.size)) (cell_row HP7.out 0)
  have HP9 := Lib.hid hp9
  clear hp9
  go_wp2_with fail
  go_loopg [13, 14, 15] 3 (fun q s13 s14 s15 wx => ∃ i : Nat, i ≤ 3 ∧ q = 3 - i ∧ s13 = .int .i64 (i : Int) ∧ Below w10.heap.size w10 wx)
  case atStart => exact ⟨0, by omega, rfl, rfl, Below.refl _ _⟩
  case round =>
    obtain ⟨i, hi, rfl, rfl, hbx⟩ := hrel
    by_cases hin : i < 3
    · obtain ⟨v1, v2, hv1, hv2, hve, hvo⟩ := HEL.out i hin
      have hu2 : wr.cell? ⟨LNo, i, none⟩ = some v2 := bcell hbx hv2
      have hi5 : (i : Int) < 3 := by omega
      have d4 : decide ((i : Int) < 3) = true := decide_eq_true hi5
      have HVE := Lib.hid (hve.new hbx); have HVO := Lib.hid (hvo.new hbx); have HBX := Lib.hid hbx; have HV1 := Lib.hid (bcell hbx hv1)
      clear hbx hve hvo hv1 hv2
      go_upto_region 16 with (go_at_call 15; refine (HVO.out _ (Below.refl _ _)).1.mono ?_; rintro e w11 ⟨rfl, hb11⟩; have HB11 := Lib.hid hb11; clear hb11)
      obtain ⟨w12, hw12⟩ : ∃ w12, w12 = w11.alloc (.cells #[.int .i64 0, .int .i64 0] 27) := ⟨_, rfl⟩
      obtain ⟨XB, hXB⟩ : ∃ XB, XB = w11.heap.size := ⟨_, rfl⟩
      have hx : w12.heap[XB]? = some (.cells #[.int .i64 0, .int .i64 0] 27 (0, 0)) := by rw [hw12]; exact alloc_at hXB
      have hb12 : Below wr.heap.size wr w12 := by rw [hw12]; exact HB11.out.alloc HB11.out.size _
      rw [← hw12, ← hXB]
      have HC12 : Hid ((fun w' => w'.cell? ⟨LNe, i, none⟩ = some v1 ∧ w'.cell? ⟨LNo, i, none⟩ = some v2 ∧ w'.cell? ⟨PB, 0, none⟩ = some (Pw X.wB) ∧ w'.cell? ⟨XB, 0, none⟩ = some (.int .i64 0) ∧ w'.cell? ⟨XB, 1, none⟩ = some (.int .i64 0)) w12.drew) := Lib.hid ⟨bcell hb12.drew HV1.out, bcell hb12.drew hu2, HP9.out w12.drew (HBX.out.trans (hb12.drew.mono HBX.out.size)), cell_row hx 0, cell_row hx 1⟩
      have HC49 := Lib.hid hb12.drew; have HIN := Lib.hid hin
      clear hw12 hXB hx hb12 hu2 HB11 HV1 hin
      refine wp_region_held_drew (S := fun w' => w'.cell? ⟨LNe, i, none⟩ = some v1 ∧ w'.cell? ⟨LNo, i, none⟩ = some v2 ∧ w'.cell? ⟨PB, 0, none⟩ = some (Pw X.wB) ∧ w'.cell? ⟨XB, 0, none⟩ = some (.int .i64 0) ∧ w'.cell? ⟨XB, 1, none⟩ = some (.int .i64 0)) (by kernel_rfl) ?_ (fun hHeld => ?_)
      · exact HC12.out
      refine tA 0 ⟨some 84, .move (.tmp 11), 60, "law.go:104", #[], none⟩ ?vdbm1 ?rdbm1
      (try simp only [Act.put, tC, tD, tE])
      refine tA 1 ⟨some 85, .move (.tmp 13), 3, "law.go:104", #[], none⟩ ?vdbm2 ?rdbm2
      (try simp only [Act.put, tC, tD, tE])
      refine tA 2 ⟨some 86, .indexAddr 60 (.tmp 84) (.tmp 85), 0, "law.go:104", #[⟨0, .data⟩, ⟨1, .data⟩], none⟩ ?vdbm3 ?rdbm3
      (try simp only [Act.put, tC, tD, tE])
      refine tA 3 ⟨some 87, .load 59 (.tmp 86), 59, "law.go:104", #[⟨2, .data⟩], none⟩ ?vdbm4 ?rdbm4
      (try simp only [Act.put, tC, tD, tE])
      refine wpAnyH_ready (rs := [4]) (by kernel_rfl) (by simp) ?_
      refine AllReadyH.cons (o := ⟨some 88, .call ⟨.value (.func 16), #[.tmp 87], #[59]⟩, 4, "law.go:104", #[⟨3, .data⟩], none⟩) rfl (fun Kq hKq => ?_) AllReadyH.nil
      go_simp
      (refine ((HVE.out _ HC49.out).2.1).mono ?_; rintro e w50 ⟨rfl, hb50⟩; have HB50 := Lib.hid hb50; have HC50 := Lib.hid (HC49.out.trans (hb50.mono HC49.out.size)); clear hb50)
      refine hKq.out _ _ ?_ (fun hHeld => ?_)
      · exact ⟨bcell HB50.out hHeld.1, bcell HB50.out hHeld.2.1, bcell HB50.out hHeld.2.2.1, bcell HB50.out hHeld.2.2.2.1, bcell HB50.out hHeld.2.2.2.2⟩
      clear hKq Kq
      (try simp only [Act.put, tC, tD, tE])
      refine tA 5 ⟨some 89, .unOp .not 4 (.tmp 88), 4, "law.go:104", #[⟨4, .data⟩], none⟩ ?vdbm5 ?rdbm5
      (try simp only [Act.put, tC, tD, tE])
      refine tA 6 ⟨some 90, .move (.tmp 89), 4, "law.go:104", #[⟨5, .data⟩, ⟨4, .chain⟩], none⟩ ?vdbm6 ?rdbm6
      (try simp only [Act.put, tC, tD, tE])
      refine tA 7 ⟨some 91, .move (.tmp 11), 60, "law.go:104", #[⟨6, .guard⟩], some (6, false)⟩ ?vdbm7 ?rdbm7
      (try simp only [Act.put, tC, tD, tE])
      refine tA 8 ⟨some 92, .move (.tmp 13), 3, "law.go:104", #[⟨6, .guard⟩], some (6, false)⟩ ?vdbm8 ?rdbm8
      (try simp only [Act.put, tC, tD, tE])
      refine tA 9 ⟨some 93, .indexAddr 60 (.tmp 91) (.tmp 92), 0, "law.go:104", #[⟨7, .data⟩, ⟨8, .data⟩, ⟨6, .guard⟩], some (6, false)⟩ ?vdbm9 ?rdbm9
      (try simp only [Act.put, tC, tD, tE])
      refine tA 10 ⟨some 94, .load 59 (.tmp 93), 59, "law.go:104", #[⟨9, .data⟩, ⟨6, .guard⟩], some (6, false)⟩ ?vdbm10 ?rdbm10
      (try simp only [Act.put, tC, tD, tE])
      refine tA 11 ⟨some 95, .fieldAddr 38 (.tmp 8) 0, 0, "law.go:104", #[⟨6, .guard⟩], some (6, false)⟩ ?vdbm11 ?rdbm11
      (try simp only [Act.put, tC, tD, tE])
      refine tA 12 ⟨some 96, .load 35 (.tmp 95), 35, "law.go:104", #[⟨11, .data⟩, ⟨6, .guard⟩], some (6, false)⟩ ?vdbm12 ?rdbm12
      (try simp only [Act.put, tC, tD, tE])
      refine wpAnyH_ready (rs := [13]) (by kernel_rfl) (by simp) ?_
      refine AllReadyH.cons (o := ⟨some 97, .call ⟨.value (.func 17), #[.tmp 94, .tmp 96], #[59, 35]⟩, 4, "law.go:104", #[⟨10, .data⟩, ⟨12, .data⟩, ⟨6, .chain⟩, ⟨6, .guard⟩], some (6, false)⟩) rfl (fun Kq hKq => ?_) AllReadyH.nil
      go_simp
      (refine ((HVE.out _ HC50.out).2.2 _).mono ?_; rintro e w51 ⟨rfl, hb51⟩; have HB51 := Lib.hid hb51; have HC51 := Lib.hid (HC50.out.trans (hb51.mono HC50.out.size)); clear hb51)
      refine hKq.out _ _ ?_ (fun hHeld => ?_)
      · exact ⟨bcell HB51.out hHeld.1, bcell HB51.out hHeld.2.1, bcell HB51.out hHeld.2.2.1, bcell HB51.out hHeld.2.2.2.1, bcell HB51.out hHeld.2.2.2.2⟩
      clear hKq Kq
      (try simp only [Act.put, tC, tD, tE])
      refine tA 14 ⟨some 98, .unOp .not 4 (.tmp 97), 4, "law.go:104", #[⟨13, .data⟩, ⟨6, .guard⟩], some (6, false)⟩ ?vdbm13 ?rdbm13
      (try simp only [Act.put, tC, tD, tE])
      refine tA 15 ⟨some 99, .pick (.tmp 90) (.const (.bool true)) (.tmp 98), 4, "law.go:104", #[⟨6, .data⟩, ⟨14, .data⟩], none⟩ ?vdbm14 ?rdbm14
      (try simp only [Act.put, tC, tD, tE])
      refine tA 16 ⟨some 100, .move (.tmp 99), 4, "law.go:104", #[⟨15, .data⟩, ⟨13, .chain⟩], none⟩ ?vdbm15 ?rdbm15
      (try simp only [Act.put, tC, tD, tE])
      refine tA 17 ⟨some 101, .move (.tmp 11), 60, "law.go:104", #[⟨16, .guard⟩], some (16, false)⟩ ?vdbm16 ?rdbm16
      (try simp only [Act.put, tC, tD, tE])
      refine tA 18 ⟨some 102, .move (.tmp 13), 3, "law.go:104", #[⟨16, .guard⟩], some (16, false)⟩ ?vdbm17 ?rdbm17
      (try simp only [Act.put, tC, tD, tE])
      refine tA 19 ⟨some 103, .indexAddr 60 (.tmp 101) (.tmp 102), 0, "law.go:104", #[⟨17, .data⟩, ⟨18, .data⟩, ⟨16, .guard⟩], some (16, false)⟩ ?vdbm18 ?rdbm18
      (try simp only [Act.put, tC, tD, tE])
      refine tA 20 ⟨some 104, .load 59 (.tmp 103), 59, "law.go:104", #[⟨19, .data⟩, ⟨16, .guard⟩], some (16, false)⟩ ?vdbm19 ?rdbm19
      (try simp only [Act.put, tC, tD, tE])
      refine tA 22 ⟨some 106, .build 27 #[], 27, "law.go:104", #[⟨16, .guard⟩], some (16, false)⟩ ?vdbm20 ?rdbm20
      (try simp only [Act.put, tC, tD, tE])
      refine wpAnyH_ready (rs := [21]) (by kernel_rfl) (by simp) ?_
      refine AllReadyH.cons (o := ⟨some 105, .call ⟨.value (.func 18), #[.tmp 104], #[59]⟩, 27, "law.go:104", #[⟨20, .data⟩, ⟨16, .chain⟩, ⟨16, .guard⟩], some (16, false)⟩) rfl (fun Kq hKq => ?_) AllReadyH.nil
      go_simp
      (refine ((HVE.out _ HC51.out).1).mono ?_; rintro e w52 ⟨rfl, hb52⟩; have HB52 := Lib.hid hb52; have HC52 := Lib.hid (HC51.out.trans (hb52.mono HC51.out.size)); clear hb52)
      refine hKq.out _ _ ?_ (fun hHeld => ?_)
      · exact ⟨bcell HB52.out hHeld.1, bcell HB52.out hHeld.2.1, bcell HB52.out hHeld.2.2.1, bcell HB52.out hHeld.2.2.2.1, bcell HB52.out hHeld.2.2.2.2⟩
      clear hKq Kq
      (try simp only [Act.put, tC, tD, tE])
      refine tA 23 ⟨some 107, .binOp .neq 27 (.tmp 105) (.tmp 106) 27, 4, "law.go:104", #[⟨21, .data⟩, ⟨22, .data⟩, ⟨16, .guard⟩], some (16, false)⟩ ?vdbm21 ?rdbm21
      (try simp only [Act.put, tC, tD, tE])
      refine tA 24 ⟨some 108, .pick (.tmp 100) (.const (.bool true)) (.tmp 107), 4, "law.go:104", #[⟨16, .data⟩, ⟨23, .data⟩], none⟩ ?vdbm22 ?rdbm22
      (try simp only [Act.put, tC, tD, tE])
      refine tA 25 ⟨some 109, .move (.tmp 108), 4, "law.go:104", #[⟨24, .data⟩, ⟨21, .chain⟩], none⟩ ?vdbm23 ?rdbm23
      (try simp only [Act.put, tC, tD, tE])
      refine tA 26 ⟨some 110, .move (.tmp 12), 62, "law.go:104", #[⟨25, .guard⟩], some (25, false)⟩ ?vdbm24 ?rdbm24
      (try simp only [Act.put, tC, tD, tE])
      refine tA 27 ⟨some 111, .move (.tmp 13), 3, "law.go:104", #[⟨25, .guard⟩], some (25, false)⟩ ?vdbm25 ?rdbm25
      (try simp only [Act.put, tC, tD, tE])
      refine tA 28 ⟨some 112, .indexAddr 62 (.tmp 110) (.tmp 111), 0, "law.go:104", #[⟨26, .data⟩, ⟨27, .data⟩, ⟨25, .guard⟩], some (25, false)⟩ ?vdbm26 ?rdbm26
      (try simp only [Act.put, tC, tD, tE])
      refine tA 29 ⟨some 113, .load 61 (.tmp 112), 61, "law.go:104", #[⟨28, .data⟩, ⟨25, .guard⟩], some (25, false)⟩ ?vdbm27 ?rdbm27
      (try simp only [Act.put, tC, tD, tE])
      refine wpAnyH_ready (rs := [30]) (by kernel_rfl) (by simp) ?_
      refine AllReadyH.cons (o := ⟨some 114, .call ⟨.value (.func 19), #[.tmp 113], #[61]⟩, 4, "law.go:104", #[⟨29, .data⟩, ⟨25, .chain⟩, ⟨25, .guard⟩], some (25, false)⟩) rfl (fun Kq hKq => ?_) AllReadyH.nil
      go_simp
      (refine ((HVO.out _ HC52.out).2.1).mono ?_; rintro e w53 ⟨rfl, hb53⟩; have HB53 := Lib.hid hb53; have HC53 := Lib.hid (HC52.out.trans (hb53.mono HC52.out.size)); clear hb53)
      refine hKq.out _ _ ?_ (fun hHeld => ?_)
      · exact ⟨bcell HB53.out hHeld.1, bcell HB53.out hHeld.2.1, bcell HB53.out hHeld.2.2.1, bcell HB53.out hHeld.2.2.2.1, bcell HB53.out hHeld.2.2.2.2⟩
      clear hKq Kq
      (try simp only [Act.put, tC, tD, tE])
      refine tA 31 ⟨some 115, .unOp .not 4 (.tmp 114), 4, "law.go:104", #[⟨30, .data⟩, ⟨25, .guard⟩], some (25, false)⟩ ?vdbm28 ?rdbm28
      (try simp only [Act.put, tC, tD, tE])
      refine tA 32 ⟨some 116, .pick (.tmp 109) (.const (.bool true)) (.tmp 115), 4, "law.go:104", #[⟨25, .data⟩, ⟨31, .data⟩], none⟩ ?vdbm29 ?rdbm29
      (try simp only [Act.put, tC, tD, tE])
      refine tA 33 ⟨some 117, .move (.tmp 116), 4, "law.go:104", #[⟨32, .data⟩, ⟨30, .chain⟩], none⟩ ?vdbm30 ?rdbm30
      (try simp only [Act.put, tC, tD, tE])
      refine tA 34 ⟨some 118, .move (.tmp 12), 62, "law.go:104", #[⟨33, .guard⟩], some (33, false)⟩ ?vdbm31 ?rdbm31
      (try simp only [Act.put, tC, tD, tE])
      refine tA 35 ⟨some 119, .move (.tmp 13), 3, "law.go:104", #[⟨33, .guard⟩], some (33, false)⟩ ?vdbm32 ?rdbm32
      (try simp only [Act.put, tC, tD, tE])
      refine tA 36 ⟨some 120, .indexAddr 62 (.tmp 118) (.tmp 119), 0, "law.go:104", #[⟨34, .data⟩, ⟨35, .data⟩, ⟨33, .guard⟩], some (33, false)⟩ ?vdbm33 ?rdbm33
      (try simp only [Act.put, tC, tD, tE])
      refine tA 37 ⟨some 121, .load 61 (.tmp 120), 61, "law.go:104", #[⟨36, .data⟩, ⟨33, .guard⟩], some (33, false)⟩ ?vdbm34 ?rdbm34
      (try simp only [Act.put, tC, tD, tE])
      refine tA 38 ⟨some 122, .fieldAddr 38 (.tmp 8) 0, 0, "law.go:104", #[⟨33, .guard⟩], some (33, false)⟩ ?vdbm35 ?rdbm35
      (try simp only [Act.put, tC, tD, tE])
      refine tA 39 ⟨some 123, .load 35 (.tmp 122), 35, "law.go:104", #[⟨38, .data⟩, ⟨33, .guard⟩], some (33, false)⟩ ?vdbm36 ?rdbm36
      (try simp only [Act.put, tC, tD, tE])
      refine wpAnyH_ready (rs := [40]) (by kernel_rfl) (by simp) ?_
      refine AllReadyH.cons (o := ⟨some 124, .call ⟨.value (.func 20), #[.tmp 121, .tmp 123], #[61, 35]⟩, 4, "law.go:104", #[⟨37, .data⟩, ⟨39, .data⟩, ⟨33, .chain⟩, ⟨33, .guard⟩], some (33, false)⟩) rfl (fun Kq hKq => ?_) AllReadyH.nil
      go_simp
      (refine ((HVO.out _ HC53.out).2.2 _).mono ?_; rintro e w54 ⟨rfl, hb54⟩; have HB54 := Lib.hid hb54; have HC54 := Lib.hid (HC53.out.trans (hb54.mono HC53.out.size)); clear hb54)
      refine hKq.out _ _ ?_ (fun hHeld => ?_)
      · exact ⟨bcell HB54.out hHeld.1, bcell HB54.out hHeld.2.1, bcell HB54.out hHeld.2.2.1, bcell HB54.out hHeld.2.2.2.1, bcell HB54.out hHeld.2.2.2.2⟩
      clear hKq Kq
      (try simp only [Act.put, tC, tD, tE])
      refine tA 41 ⟨some 125, .unOp .not 4 (.tmp 124), 4, "law.go:104", #[⟨40, .data⟩, ⟨33, .guard⟩], some (33, false)⟩ ?vdbm37 ?rdbm37
      (try simp only [Act.put, tC, tD, tE])
      refine tA 42 ⟨some 126, .pick (.tmp 117) (.const (.bool true)) (.tmp 125), 4, "law.go:104", #[⟨33, .data⟩, ⟨41, .data⟩], none⟩ ?vdbm38 ?rdbm38
      (try simp only [Act.put, tC, tD, tE])
      refine tA 43 ⟨some 127, .move (.tmp 126), 4, "law.go:104", #[⟨42, .data⟩, ⟨40, .chain⟩], none⟩ ?vdbm39 ?rdbm39
      (try simp only [Act.put, tC, tD, tE])
      refine tA 44 ⟨some 128, .load 27 (.tmp 14), 27, "law.go:104", #[⟨43, .guard⟩], some (43, false)⟩ ?vdbm40 ?rdbm40
      (try simp only [Act.put, tC, tD, tE])
      refine tA 45 ⟨some 129, .build 27 #[], 27, "law.go:104", #[⟨43, .guard⟩], some (43, false)⟩ ?vdbm41 ?rdbm41
      (try simp only [Act.put, tC, tD, tE])
      refine tA 46 ⟨some 130, .binOp .neq 27 (.tmp 128) (.tmp 129) 27, 4, "law.go:104", #[⟨44, .data⟩, ⟨45, .data⟩, ⟨43, .guard⟩], some (43, false)⟩ ?vdbm42 ?rdbm42
      (try simp only [Act.put, tC, tD, tE])
      refine tA 47 ⟨some 131, .pick (.tmp 127) (.const (.bool true)) (.tmp 130), 4, "law.go:104", #[⟨43, .data⟩, ⟨46, .data⟩], none⟩ ?vdbm43 ?rdbm43
      (try simp only [Act.put, tC, tD, tE])
      refine tA 48 ⟨some 132, .move (.tmp 131), 4, "law.go:104", #[⟨47, .data⟩, ⟨43, .chain⟩], none⟩ ?vdbm44 ?rdbm44
      (try simp only [Act.put, tC, tD, tE])
      refine tA 49 ⟨some 133, .move (.tmp 15), 24, "law.go:104", #[⟨48, .guard⟩], some (48, false)⟩ ?vdbm45 ?rdbm45
      (try simp only [Act.put, tC, tD, tE])
      refine tA 50 ⟨some 134, .binOp .neq 24 (.tmp 133) (.const (.int .u32 0)) 24, 4, "law.go:104", #[⟨49, .data⟩, ⟨48, .guard⟩], some (48, false)⟩ ?vdbm46 ?rdbm46
      (try simp only [Act.put, tC, tD, tE])
      refine tA 51 ⟨some 135, .pick (.tmp 132) (.const (.bool true)) (.tmp 134), 4, "law.go:104", #[⟨48, .data⟩, ⟨50, .data⟩], none⟩ ?vdbm47 ?rdbm47
      (try simp only [Act.put, tC, tD, tE])
      refine wpAnyH_done (by kernel_rfl) ?_ _
      clear hHeld
      go_wp2_with fail
      go_roundg (3 - (i + 1))
      case measure => have := HIN.out; omega
      case rel => exact ⟨i + 1, by have := HIN.out; omega, rfl, by go_num, HBX.out.trans (HC54.out.mono HBX.out.size)⟩
    · obtain rfl : i = 3 := by omega
      have HBX := Lib.hid hbx
      clear hbx hin hi
      go_upto_region 19 with (go_at_call 13; refine (HNE.out _).mono ?_; rintro e w20 ⟨v, rfl, hne⟩)
      obtain ⟨Z, rfl, hwa, hb20, hzi, _⟩ := hne
      have hb720 : Below w7.heap.size w7 w20 := (HB70.out.trans (HBX.out.mono HB70.out.size)).trans (hb20.mono (Nat.le_trans HB70.out.size HBX.out.size))
      have e0 : w20.cell? ⟨Z.B, 0, none⟩ = some (.slice (some ⟨Z.PB, 0, none⟩) 4 4) := cell_row hwa.b 0
      have e1 : w20.cell? ⟨Z.B, 1, none⟩ = some (.int .i64 0) := by rw [← hzi]; exact cell_row hwa.b 1
      have HEO := Lib.hid (fun (W : World) (hb : Below w20.heap.size w20 W) => eover_s (bcell hb e0) (bcell hb e1)); have HES := Lib.hid (fun (W : World) (hb : Below w20.heap.size w20 W) => estep_s (bcell hb e0) (bcell hb e1))
      have HSA := Lib.hid (fun (W : World) (hb : Below w20.heap.size w20 W) => pair_all ((HB7.out.new hb720).new hb) (by omega) (by omega))
      have HPF := Lib.hid (fun (W : World) (hb : Below w20.heap.size w20 W) => (And.intro (show W.cell? ⟨PB, 0, none⟩ = some (Pw X.wB) from bcell (hb720.trans (hb.mono hb720.size)) (cell_row HP7.out 0)) (show W.cell? ⟨PB, 1, none⟩ = some (Pw Y.wB) from bcell (hb720.trans (hb.mono hb720.size)) (cell_row HP7.out 1))))
      have HBZ := Lib.hid (HB1.out.trans ((HBW.out.trans (hb720.mono HBW.out.size)).mono HB1.out.size))
      clear hwa hb20 hb720 hzi e0 e1 HEL HP9 HBX HNE
      go_wp2_with (first
        | (go_at_call 17; refine (HES.out _ (Below.refl _ _)).mono ?_; rintro e w70 ⟨rfl, hb70⟩; have HC70 := Lib.hid hb70; clear hb70)
        | (go_at_call 16; refine (HEO.out _ HC70.out).mono ?_; rintro e w71 ⟨rfl, hb71⟩; have HC71 := Lib.hid (HC70.out.trans (hb71.mono HC70.out.size)); obtain ⟨c0, c1⟩ := HPF.out _ HC71.out; clear hb71)
        | (go_at_call 21; refine (HSA.out _ HC71.out).mono ?_; rintro e w72 ⟨rfl, hb72⟩; have HC72 := Lib.hid (HC71.out.trans (hb72.mono HC71.out.size)); clear hb72)
        | (go_at_call 22; refine (HLV.out _).mono ?_; rintro e w73 ⟨rfl, hb73⟩; have HC73 := Lib.hid (HC72.out.trans (hb73.mono HC72.out.size)); clear hb73))
      go_ret
      exact ⟨rfl, HBZ.out.trans (HC73.out.mono HBZ.out.size)⟩
theorem law_any_thread (u key : Nat) (z0 z1 t : Int) (hu : u < 18446744073709551616) (hk : key < 4294967296) (ht : 0 ≤ t ∧ t < 64) (w : World) : Calls Tryz.prog 3 #[.int .u64 (u : Int), .int .u32 (key : Int), .agg #[.int .i64 z0, .int .i64 z1, .int .i64 t]] w fun e w' => e = .returned (.bool true) ∧ Below w.heap.size w w' := by
  have HBG := Lib.hid (fun W => S14.begin_void W)
  have HLV := Lib.hid (fun W => lives15 W)
  have HNE : Hid (∀ W, Calls Tryz.prog 13 #[.int .i64 5, .int .u32 (key : Int)] W fun e w' => ∃ v, e = .returned v ∧ NewE W w' false 5 key v) := Lib.hid (fun W => new_enter 5 key (by omega) hk W)
  have HBI := Lib.hid (fun W => bits_any u hu W); have HRB := Lib.hid (fun W => rbits_any u W)
  have hpl := fun W => place_any key u hk hu W
  have hrp := fun W => rplace_any key u hk W
  unfold placeV at hpl hrp
  have HPL := Lib.hid hpl; have HRP := Lib.hid hrp; have HLK := Lib.hid (fun W => lockOf_any z0 z1 W); have HRL := Lib.hid (fun W => rlockOf_any z0 z1 W); have HOT := Lib.hid (fun b i W => S10.otherP_any b i W)
  generalize bitsN u = bn at *
  generalize bktN key u = bk at *
  generalize S10.lockZ z0 z1 = lz at *
  have d1 : decide (t < 0) = false := decide_eq_false (by omega)
  have d2 : decide (64 ≤ t) = false := decide_eq_false (by omega)
  have hnq := neqR (bn : Int) (bk : Int)
  have hnp := neqP2 0 0
  clear ht hu hk hpl hrp
  go_enter Tryz.func3, Tryz.ntmps3
  go_upto_region 2 with (fail)
  obtain ⟨w1, hw1⟩ : ∃ w1, w1 = (w.alloc (.cells #[.int .i64 z0, .int .i64 z1, .int .i64 t] 25)).alloc (.cells #[.int .i64 z0, .int .i64 z1] 27) := ⟨_, rfl⟩
  obtain ⟨ZB, hZB⟩ : ∃ ZB, ZB = w.heap.size := ⟨_, rfl⟩
  have hz : w1.heap[ZB]? = some (.cells #[.int .i64 z0, .int .i64 z1, .int .i64 t] 25 (0, 0)) := by rw [hw1, alloc_lt (by rw [alloc_size, hZB]; omega)]; exact alloc_at hZB
  have hp : w1.heap[ZB + 1]? = some (.cells #[.int .i64 z0, .int .i64 z1] 27 (0, 0)) := by rw [hw1]; exact alloc_at (by rw [alloc_size, hZB])
  have hb1 : Below w.heap.size w w1 := by rw [hw1]; exact (below1 w _).alloc (by rw [alloc_size]; omega) _
  rw [← hw1, ← hZB]
  have HZ1 := Lib.hid hz; have HP1 := Lib.hid hp; have HB1 := Lib.hid hb1; have HC29 := Lib.hid ((Below.refl w1.heap.size w1).drew)
  clear hz hp hb1 hw1 hZB
  generalize ZB + 1 = PLB at *
  refine wp_region_held_drew (S := fun w' => w'.cell? ⟨PLB, 0, none⟩ = some (.int .i64 z0) ∧ w'.cell? ⟨PLB, 1, none⟩ = some (.int .i64 z1)) (by kernel_rfl) ?_ (fun hHeld => ?_)
  · exact ⟨cell_row HP1.out 0, cell_row HP1.out 1⟩
  refine tA 0 ⟨some 22, .move (.tmp 0), 22, "law.go:90", #[], none⟩ ?vctm1 ?rctm1
  (try simp only [Act.put, tC, tD, tE])
  refine tA 2 ⟨some 24, .move (.tmp 0), 22, "law.go:90", #[], none⟩ ?vctm2 ?rctm2
  (try simp only [Act.put, tC, tD, tE])
  refine wpAnyH_ready (rs := [1]) (by kernel_rfl) (by simp) ?_
  refine AllReadyH.cons (o := ⟨some 23, .call ⟨.value (.func 5), #[.tmp 22], #[22]⟩, 3, "law.go:90", #[⟨0, .data⟩], none⟩) rfl (fun Kq hKq => ?_) AllReadyH.nil
  go_simp
  (refine (HBI.out _).mono ?_; rintro e w30 ⟨rfl, rfl⟩)
  refine hKq.out _ _ ?_ (fun hHeld => ?_)
  · exact hHeld
  clear hKq Kq
  (try simp only [Act.put, tC, tD, tE])
  refine wpAnyH_ready (rs := [3]) (by kernel_rfl) (by simp) ?_
  refine AllReadyH.cons (o := ⟨some 25, .call ⟨.value (.func 6), #[.tmp 24], #[22]⟩, 3, "law.go:90", #[⟨2, .data⟩, ⟨1, .chain⟩], none⟩) rfl (fun Kq hKq => ?_) AllReadyH.nil
  go_simp
  (refine (HRB.out _).mono ?_; rintro e w31 ⟨rfl, rfl⟩)
  refine hKq.out _ _ ?_ (fun hHeld => ?_)
  · exact hHeld
  clear hKq Kq
  (try simp only [Act.put, tC, tD, tE])
  refine tA 4 ⟨some 26, .binOp .neq 3 (.tmp 23) (.tmp 25) 3, 4, "law.go:90", #[⟨1, .data⟩, ⟨3, .data⟩], none⟩ ?vctm3 ?rctm3
  (try simp only [Act.put, tC, tD, tE])
  refine tA 5 ⟨some 27, .move (.tmp 26), 4, "law.go:90", #[⟨4, .data⟩, ⟨3, .chain⟩], none⟩ ?vctm4 ?rctm4
  (try simp only [Act.put, tC, tD, tE])
  refine tA 6 ⟨some 28, .move (.tmp 1), 24, "law.go:90", #[⟨5, .guard⟩], some (5, false)⟩ ?vctm5 ?rctm5
  (try simp only [Act.put, tC, tD, tE])
  refine tA 7 ⟨some 29, .move (.tmp 0), 22, "law.go:90", #[⟨5, .guard⟩], some (5, false)⟩ ?vctm6 ?rctm6
  (try simp only [Act.put, tC, tD, tE])
  refine tA 10 ⟨some 32, .move (.tmp 1), 24, "law.go:90", #[⟨5, .guard⟩], some (5, false)⟩ ?vctm7 ?rctm7
  (try simp only [Act.put, tC, tD, tE])
  refine tA 11 ⟨some 33, .move (.tmp 0), 22, "law.go:90", #[⟨5, .guard⟩], some (5, false)⟩ ?vctm8 ?rctm8
  (try simp only [Act.put, tC, tD, tE])
  refine wpAnyH_ready (rs := [8]) (by kernel_rfl) (by simp) ?_
  refine AllReadyH.cons (o := ⟨some 30, .call ⟨.value (.func 8), #[.tmp 28, .tmp 29], #[24, 22]⟩, 27, "law.go:90", #[⟨6, .data⟩, ⟨7, .data⟩, ⟨5, .chain⟩, ⟨5, .guard⟩], some (5, false)⟩) rfl (fun Kq hKq => ?_) AllReadyH.nil
  go_simp
  (refine (HPL.out _).mono ?_; rintro e w32 ⟨rfl, hb32⟩; have HB32 := Lib.hid hb32; have HC32 := Lib.hid (HC29.out.trans (hb32.mono HC29.out.size)); clear hb32)
  refine hKq.out _ _ ?_ (fun hHeld => ?_)
  · exact ⟨bcell HB32.out hHeld.1, bcell HB32.out hHeld.2⟩
  clear hKq Kq
  (try simp only [Act.put, tC, tD, tE])
  refine wpAnyH_ready (rs := [9]) (by kernel_rfl) (by simp) ?_
  refine AllReadyH.cons (o := ⟨some 31, .call ⟨.value (.func 7), #[.tmp 30], #[27]⟩, 29, "law.go:90", #[⟨8, .data⟩, ⟨8, .chain⟩, ⟨5, .guard⟩], some (5, false)⟩) rfl (fun Kq hKq => ?_) AllReadyH.nil
  go_simp
  (refine (HOT.out _ _ _).mono ?_; rintro e w33 ⟨rfl, hb33⟩; have HB33 := Lib.hid hb33; have HC33 := Lib.hid (HC32.out.trans (hb33.mono HC32.out.size)); clear hb33)
  refine hKq.out _ _ ?_ (fun hHeld => ?_)
  · exact ⟨bcell HB33.out hHeld.1, bcell HB33.out hHeld.2⟩
  clear hKq Kq
  (try simp only [Act.put, tC, tD, tE])
  refine wpAnyH_ready (rs := [12]) (by kernel_rfl) (by simp) ?_
  refine AllReadyH.cons (o := ⟨some 34, .call ⟨.value (.func 9), #[.tmp 32, .tmp 33], #[24, 22]⟩, 29, "law.go:90", #[⟨10, .data⟩, ⟨11, .data⟩, ⟨9, .chain⟩, ⟨5, .guard⟩], some (5, false)⟩) rfl (fun Kq hKq => ?_) AllReadyH.nil
  go_simp
  (refine (HRP.out _).mono ?_; rintro e w34 ⟨rfl, hb34⟩; have HB34 := Lib.hid hb34; have HC34 := Lib.hid (HC33.out.trans (hb34.mono HC33.out.size)); clear hb34)
  refine hKq.out _ _ ?_ (fun hHeld => ?_)
  · exact ⟨bcell HB34.out hHeld.1, bcell HB34.out hHeld.2⟩
  clear hKq Kq
  (try simp only [Act.put, tC, tD, tE])
  refine tA 13 ⟨some 35, .binOp .neq 29 (.tmp 31) (.tmp 34) 29, 4, "law.go:90", #[⟨9, .data⟩, ⟨12, .data⟩, ⟨5, .guard⟩], some (5, false)⟩ ?vctm9 ?rctm9
  (try simp only [Act.put, tC, tD, tE])
  refine tA 14 ⟨some 36, .pick (.tmp 27) (.const (.bool true)) (.tmp 35), 4, "law.go:90", #[⟨5, .data⟩, ⟨13, .data⟩], none⟩ ?vctm10 ?rctm10
  (try simp only [Act.put, tC, tD, tE])
  refine tA 15 ⟨some 37, .move (.tmp 36), 4, "law.go:90", #[⟨14, .data⟩, ⟨12, .chain⟩], none⟩ ?vctm11 ?rctm11
  (try simp only [Act.put, tC, tD, tE])
  refine tA 16 ⟨some 38, .load 27 (.tmp 7), 27, "law.go:90", #[⟨15, .guard⟩], some (15, false)⟩ ?vctm12 ?rctm12
  (try simp only [Act.put, tC, tD, tE])
  refine tA 18 ⟨some 40, .load 27 (.tmp 7), 27, "law.go:90", #[⟨15, .guard⟩], some (15, false)⟩ ?vctm13 ?rctm13
  (try simp only [Act.put, tC, tD, tE])
  refine wpAnyH_ready (rs := [17]) (by kernel_rfl) (by simp) ?_
  refine AllReadyH.cons (o := ⟨some 39, .call ⟨.value (.func 10), #[.tmp 38], #[27]⟩, 24, "law.go:90", #[⟨16, .data⟩, ⟨15, .chain⟩, ⟨15, .guard⟩], some (15, false)⟩) rfl (fun Kq hKq => ?_) AllReadyH.nil
  go_simp
  (refine (HLK.out _).mono ?_; rintro e w35 ⟨rfl, hb35⟩; have HB35 := Lib.hid hb35; have HC35 := Lib.hid (HC34.out.trans (hb35.mono HC34.out.size)); clear hb35)
  refine hKq.out _ _ ?_ (fun hHeld => ?_)
  · exact ⟨bcell HB35.out hHeld.1, bcell HB35.out hHeld.2⟩
  clear hKq Kq
  (try simp only [Act.put, tC, tD, tE])
  refine wpAnyH_ready (rs := [19]) (by kernel_rfl) (by simp) ?_
  refine AllReadyH.cons (o := ⟨some 41, .call ⟨.value (.func 7), #[.tmp 40], #[27]⟩, 29, "law.go:90", #[⟨18, .data⟩, ⟨17, .chain⟩, ⟨15, .guard⟩], some (15, false)⟩) rfl (fun Kq hKq => ?_) AllReadyH.nil
  go_simp
  (refine (HOT.out _ _ _).mono ?_; rintro e w36 ⟨rfl, hb36⟩; have HB36 := Lib.hid hb36; have HC36 := Lib.hid (HC35.out.trans (hb36.mono HC35.out.size)); clear hb36)
  refine hKq.out _ _ ?_ (fun hHeld => ?_)
  · exact ⟨bcell HB36.out hHeld.1, bcell HB36.out hHeld.2⟩
  clear hKq Kq
  (try simp only [Act.put, tC, tD, tE])
  refine wpAnyH_ready (rs := [20]) (by kernel_rfl) (by simp) ?_
  refine AllReadyH.cons (o := ⟨some 42, .call ⟨.value (.func 11), #[.tmp 41], #[29]⟩, 24, "law.go:90", #[⟨19, .data⟩, ⟨19, .chain⟩, ⟨15, .guard⟩], some (15, false)⟩) rfl (fun Kq hKq => ?_) AllReadyH.nil
  go_simp
  (refine (HRL.out _).mono ?_; rintro e w37 ⟨rfl, hb37⟩; have HB37 := Lib.hid hb37; have HC37 := Lib.hid (HC36.out.trans (hb37.mono HC36.out.size)); clear hb37)
  refine hKq.out _ _ ?_ (fun hHeld => ?_)
  · exact ⟨bcell HB37.out hHeld.1, bcell HB37.out hHeld.2⟩
  clear hKq Kq
  (try simp only [Act.put, tC, tD, tE])
  refine tA 21 ⟨some 43, .binOp .neq 24 (.tmp 39) (.tmp 42) 24, 4, "law.go:90", #[⟨17, .data⟩, ⟨20, .data⟩, ⟨15, .guard⟩], some (15, false)⟩ ?vctm14 ?rctm14
  (try simp only [Act.put, tC, tD, tE])
  refine tA 22 ⟨some 44, .pick (.tmp 37) (.const (.bool true)) (.tmp 43), 4, "law.go:90", #[⟨15, .data⟩, ⟨21, .data⟩], none⟩ ?vctm15 ?rctm15
  (try simp only [Act.put, tC, tD, tE])
  refine wpAnyH_done (by kernel_rfl) ?_ _
  clear hHeld HBI HRB HPL HRP HLK HRL HOT hnq
  go_upto_region 9 with (go_at_call 12; refine (HBG.out _).mono ?_; rintro e w2 ⟨M, X, Y, rfl, hbg⟩)
  obtain ⟨w3, hw3⟩ : ∃ w3, w3 = w2.alloc (.cells #[Pw X.wB, Pw Y.wB] 38) := ⟨_, rfl⟩
  obtain ⟨w4, hw4⟩ : ∃ w4, w4 = w3.alloc (.cells #[.slice none 0 0, .int .i64 0, .int .i64 0, .pointer none, .pointer none, .int .i64 0, .int .i64 0, .bool false, .nilIface] 57) := ⟨_, rfl⟩
  obtain ⟨w5, hw5⟩ : ∃ w5, w5 = w4.alloc (.cells #[.slice none 0 0, .int .i64 0, .int .i64 0, .pointer none, .pointer none, .int .i64 0, .int .i64 0, .bool false, .nilIface] 58) := ⟨_, rfl⟩
  obtain ⟨w6, hw6⟩ : ∃ w6, w6 = w5.alloc (.cells #[.pointer none, Pw w3.heap.size] 59) := ⟨_, rfl⟩
  obtain ⟨w7, hw7⟩ : ∃ w7, w7 = w6.alloc (.cells #[.pointer none, Pw w4.heap.size] 61) := ⟨_, rfl⟩
  have z3 : w3.heap.size = w2.heap.size + 1 := by rw [hw3]; simp
  have z4 : w4.heap.size = w2.heap.size + 1 + 1 := by rw [hw4, alloc_size, z3]
  have z5 : w5.heap.size = w2.heap.size + 1 + 1 + 1 := by rw [hw5, alloc_size, z4]
  have z6 : w6.heap.size = w2.heap.size + 1 + 1 + 1 + 1 := by rw [hw6, alloc_size, z5]
  have b3 : Below w2.heap.size w2 w3 := by rw [hw3]; exact below1 _ _
  have b4 : Below w3.heap.size w3 w4 := by rw [hw4]; exact below1 _ _
  have b5 : Below w4.heap.size w4 w5 := by rw [hw5]; exact below1 _ _
  have b6 : Below w5.heap.size w5 w6 := by rw [hw6]; exact below1 _ _
  have b7 : Below w6.heap.size w6 w7 := by rw [hw7]; exact below1 _ _
  have q3 : w3.heap[w2.heap.size]? = some (.cells #[Pw X.wB, Pw Y.wB] 38 (0, 0)) := by rw [hw3]; exact heap_alloc_new _ _
  have q4 : w4.heap[w3.heap.size]? = some (.cells zeroW 57 (0, 0)) := by rw [hw4]; exact heap_alloc_new _ _
  have q5 : w5.heap[w4.heap.size]? = some (.cells zeroW 58 (0, 0)) := by rw [hw5]; exact heap_alloc_new _ _
  have q6 : w6.heap[w5.heap.size]? = some (.cells #[.pointer none, Pw w3.heap.size] 59 (0, 0)) := by rw [hw6]; exact heap_alloc_new _ _
  have q7 : w7.heap[w6.heap.size]? = some (.cells #[.pointer none, Pw w4.heap.size] 61 (0, 0)) := by rw [hw7]; exact heap_alloc_new _ _
  have b57 : Below w5.heap.size w5 w7 := b6.trans (b7.mono b6.size)
  have b47 : Below w4.heap.size w4 w7 := b5.trans (b57.mono b5.size)
  have b37 : Below w3.heap.size w3 w7 := b4.trans (b47.mono b4.size)
  have p7 := (b37.block _ (heap_lt q3)).trans q3
  have v7 := (b47.block _ (heap_lt q4)).trans q4
  have o7 := (b57.block _ (heap_lt q5)).trans q5
  have l7 := (b7.block _ (heap_lt q6)).trans q6
  have hbg7 := (((((hbg.new b3).new b4).new b5).new b6).new b7)
  have e7 : ((((w2.alloc (.cells #[Pw X.wB, Pw Y.wB] 38)).alloc (.cells #[.slice none 0 0, .int .i64 0, .int .i64 0, .pointer none, .pointer none, .int .i64 0, .int .i64 0, .bool false, .nilIface] 57)).alloc (.cells #[.slice none 0 0, .int .i64 0, .int .i64 0, .pointer none, .pointer none, .int .i64 0, .int .i64 0, .bool false, .nilIface] 58)).alloc (.cells #[.pointer none, Pw (w2.heap.size + 1)] 59)).alloc (.cells #[.pointer none, Pw (w2.heap.size + 1 + 1)] 61) = w7 := by rw [hw7, hw6, hw5, hw4, ← hw3, z3, ← hw4, z4]
  rw [e7]
  have hbw : Below w1.heap.size w1 w7 := HC37.out.trans (hbg7.bl.mono HC37.out.size)
  have HB7 := Lib.hid hbg7; have HP7 := Lib.hid p7; have HV7 := Lib.hid v7; have HO7 := Lib.hid o7; have HL7 := Lib.hid l7; have HQ7 := Lib.hid q7; have HBW := Lib.hid hbw; have HZ := Lib.hid (And.intro z3 (And.intro z4 (And.intro z5 z6)))
  clear hw3 hw4 hw5 hw6 hw7 z3 z4 z5 z6 b3 b4 b5 b6 b7 q3 q4 q5 q6 q7 p7 v7 o7 l7 hbg7 hbg e7 hbw b57 b47 b37 HBG
  rw [HZ.out.1] at HV7 HL7
  rw [HZ.out.2.1] at HO7 HQ7
  rw [HZ.out.2.2.1] at HL7
  rw [HZ.out.2.2.2] at HQ7
  clear HZ
  generalize w2.heap.size = PB at *
  generalize PB + 1 = EX at *
  generalize EX + 1 = OX at *
  generalize OX + 1 = L1 at *
  generalize L1 + 1 = L2 at *
  clear w3 w4 w5 w6
  have zc2 : w7.cell? ⟨ZB, 2, none⟩ = some (.int .i64 t) := bcell HBW.out (cell_row HZ1.out 2)
  go_upto_region 12 with (fail)
  clear zc2
  obtain ⟨w10, hw10⟩ : ∃ w10, w10 = w7 := ⟨_, rfl⟩
  have hel : ∀ i : Nat, i < 2 → ∃ v1 v2, w10.cell? ⟨L1, i, none⟩ = some v1 ∧ w10.cell? ⟨L2, i, none⟩ = some v2 ∧ VE w10 v1 ∧ VO w10 v2 := fun i hi => by
    rw [hw10]
    rcases (show i = 0 ∨ i = 1 by omega) with rfl | rfl
    · exact ⟨_, _, cell_row HL7.out 0, cell_row HQ7.out 0, ve_nil _, vo_nil _⟩
    · exact ⟨_, _, cell_row HL7.out 1, cell_row HQ7.out 1, ve_blk HV7.out, vo_blk HO7.out⟩
  have HEL := Lib.hid hel; have HB70 : Hid (Below w7.heap.size w7 w10) := Lib.hid (by rw [hw10]; exact Below.refl _ _)
  rw [← hw10]
  clear hel hw10
  obtain ⟨LNe, hLe⟩ : ∃ LN, LN = L1 := ⟨_, rfl⟩
  obtain ⟨LNo, hLo⟩ : ∃ LN, LN = L2 := ⟨_, rfl⟩
  rw [← hLe, ← hLo] at HEL
  rw [← hLe, ← hLo]
  clear hLe hLo
  have hp9 : ∀ W, Below w10.heap.size w10 W → W.cell? ⟨PB, 0, none⟩ = some (Pw X.wB) := fun W hW => bcell (HB70.out.trans (hW.mono HB70.out.size)) (cell_row HP7.out 0)
  have HP9 := Lib.hid hp9
  clear hp9
  go_wp2_with fail
  go_loopg [13, 14, 15] 2 (fun q s13 s14 s15 wx => ∃ i : Nat, i ≤ 2 ∧ q = 2 - i ∧ s13 = .int .i64 (i : Int) ∧ Below w10.heap.size w10 wx)
  case atStart => exact ⟨0, by omega, rfl, rfl, Below.refl _ _⟩
  case round =>
    obtain ⟨i, hi, rfl, rfl, hbx⟩ := hrel
    by_cases hin : i < 2
    · obtain ⟨v1, v2, hv1, hv2, hve, hvo⟩ := HEL.out i hin
      have hu2 : wr.cell? ⟨LNo, i, none⟩ = some v2 := bcell hbx hv2
      have hi5 : (i : Int) < 2 := by omega
      have d4 : decide ((i : Int) < 2) = true := decide_eq_true hi5
      have HVE := Lib.hid (hve.new hbx); have HVO := Lib.hid (hvo.new hbx); have HBX := Lib.hid hbx; have HV1 := Lib.hid (bcell hbx hv1)
      clear hbx hve hvo hv1 hv2
      go_upto_region 16 with (go_at_call 15; refine (HVO.out _ (Below.refl _ _)).1.mono ?_; rintro e w11 ⟨rfl, hb11⟩; have HB11 := Lib.hid hb11; clear hb11)
      obtain ⟨w12, hw12⟩ : ∃ w12, w12 = w11.alloc (.cells #[.int .i64 0, .int .i64 0] 27) := ⟨_, rfl⟩
      obtain ⟨XB, hXB⟩ : ∃ XB, XB = w11.heap.size := ⟨_, rfl⟩
      have hx : w12.heap[XB]? = some (.cells #[.int .i64 0, .int .i64 0] 27 (0, 0)) := by rw [hw12]; exact alloc_at hXB
      have hb12 : Below wr.heap.size wr w12 := by rw [hw12]; exact HB11.out.alloc HB11.out.size _
      rw [← hw12, ← hXB]
      have HC12 : Hid ((fun w' => w'.cell? ⟨LNe, i, none⟩ = some v1 ∧ w'.cell? ⟨LNo, i, none⟩ = some v2 ∧ w'.cell? ⟨PB, 0, none⟩ = some (Pw X.wB) ∧ w'.cell? ⟨XB, 0, none⟩ = some (.int .i64 0) ∧ w'.cell? ⟨XB, 1, none⟩ = some (.int .i64 0)) w12.drew) := Lib.hid ⟨bcell hb12.drew HV1.out, bcell hb12.drew hu2, HP9.out w12.drew (HBX.out.trans (hb12.drew.mono HBX.out.size)), cell_row hx 0, cell_row hx 1⟩
      have HC49 := Lib.hid hb12.drew; have HIN := Lib.hid hin
      clear hw12 hXB hx hb12 hu2 HB11 HV1 hin
      refine wp_region_held_drew (S := fun w' => w'.cell? ⟨LNe, i, none⟩ = some v1 ∧ w'.cell? ⟨LNo, i, none⟩ = some v2 ∧ w'.cell? ⟨PB, 0, none⟩ = some (Pw X.wB) ∧ w'.cell? ⟨XB, 0, none⟩ = some (.int .i64 0) ∧ w'.cell? ⟨XB, 1, none⟩ = some (.int .i64 0)) (by kernel_rfl) ?_ (fun hHeld => ?_)
      · exact HC12.out
      refine tA 0 ⟨some 84, .move (.tmp 11), 60, "law.go:104", #[], none⟩ ?vdtm1 ?rdtm1
      (try simp only [Act.put, tC, tD, tE])
      refine tA 1 ⟨some 85, .move (.tmp 13), 3, "law.go:104", #[], none⟩ ?vdtm2 ?rdtm2
      (try simp only [Act.put, tC, tD, tE])
      refine tA 2 ⟨some 86, .indexAddr 60 (.tmp 84) (.tmp 85), 0, "law.go:104", #[⟨0, .data⟩, ⟨1, .data⟩], none⟩ ?vdtm3 ?rdtm3
      (try simp only [Act.put, tC, tD, tE])
      refine tA 3 ⟨some 87, .load 59 (.tmp 86), 59, "law.go:104", #[⟨2, .data⟩], none⟩ ?vdtm4 ?rdtm4
      (try simp only [Act.put, tC, tD, tE])
      refine wpAnyH_ready (rs := [4]) (by kernel_rfl) (by simp) ?_
      refine AllReadyH.cons (o := ⟨some 88, .call ⟨.value (.func 16), #[.tmp 87], #[59]⟩, 4, "law.go:104", #[⟨3, .data⟩], none⟩) rfl (fun Kq hKq => ?_) AllReadyH.nil
      go_simp
      (refine ((HVE.out _ HC49.out).2.1).mono ?_; rintro e w50 ⟨rfl, hb50⟩; have HB50 := Lib.hid hb50; have HC50 := Lib.hid (HC49.out.trans (hb50.mono HC49.out.size)); clear hb50)
      refine hKq.out _ _ ?_ (fun hHeld => ?_)
      · exact ⟨bcell HB50.out hHeld.1, bcell HB50.out hHeld.2.1, bcell HB50.out hHeld.2.2.1, bcell HB50.out hHeld.2.2.2.1, bcell HB50.out hHeld.2.2.2.2⟩
      clear hKq Kq
      (try simp only [Act.put, tC, tD, tE])
      refine tA 5 ⟨some 89, .unOp .not 4 (.tmp 88), 4, "law.go:104", #[⟨4, .data⟩], none⟩ ?vdtm5 ?rdtm5
      (try simp only [Act.put, tC, tD, tE])
      refine tA 6 ⟨some 90, .move (.tmp 89), 4, "law.go:104", #[⟨5, .data⟩, ⟨4, .chain⟩], none⟩ ?vdtm6 ?rdtm6
      (try simp only [Act.put, tC, tD, tE])
      refine tA 7 ⟨some 91, .move (.tmp 11), 60, "law.go:104", #[⟨6, .guard⟩], some (6, false)⟩ ?vdtm7 ?rdtm7
      (try simp only [Act.put, tC, tD, tE])
      refine tA 8 ⟨some 92, .move (.tmp 13), 3, "law.go:104", #[⟨6, .guard⟩], some (6, false)⟩ ?vdtm8 ?rdtm8
      (try simp only [Act.put, tC, tD, tE])
      refine tA 9 ⟨some 93, .indexAddr 60 (.tmp 91) (.tmp 92), 0, "law.go:104", #[⟨7, .data⟩, ⟨8, .data⟩, ⟨6, .guard⟩], some (6, false)⟩ ?vdtm9 ?rdtm9
      (try simp only [Act.put, tC, tD, tE])
      refine tA 10 ⟨some 94, .load 59 (.tmp 93), 59, "law.go:104", #[⟨9, .data⟩, ⟨6, .guard⟩], some (6, false)⟩ ?vdtm10 ?rdtm10
      (try simp only [Act.put, tC, tD, tE])
      refine tA 11 ⟨some 95, .fieldAddr 38 (.tmp 8) 0, 0, "law.go:104", #[⟨6, .guard⟩], some (6, false)⟩ ?vdtm11 ?rdtm11
      (try simp only [Act.put, tC, tD, tE])
      refine tA 12 ⟨some 96, .load 35 (.tmp 95), 35, "law.go:104", #[⟨11, .data⟩, ⟨6, .guard⟩], some (6, false)⟩ ?vdtm12 ?rdtm12
      (try simp only [Act.put, tC, tD, tE])
      refine wpAnyH_ready (rs := [13]) (by kernel_rfl) (by simp) ?_
      refine AllReadyH.cons (o := ⟨some 97, .call ⟨.value (.func 17), #[.tmp 94, .tmp 96], #[59, 35]⟩, 4, "law.go:104", #[⟨10, .data⟩, ⟨12, .data⟩, ⟨6, .chain⟩, ⟨6, .guard⟩], some (6, false)⟩) rfl (fun Kq hKq => ?_) AllReadyH.nil
      go_simp
      (refine ((HVE.out _ HC50.out).2.2 _).mono ?_; rintro e w51 ⟨rfl, hb51⟩; have HB51 := Lib.hid hb51; have HC51 := Lib.hid (HC50.out.trans (hb51.mono HC50.out.size)); clear hb51)
      refine hKq.out _ _ ?_ (fun hHeld => ?_)
      · exact ⟨bcell HB51.out hHeld.1, bcell HB51.out hHeld.2.1, bcell HB51.out hHeld.2.2.1, bcell HB51.out hHeld.2.2.2.1, bcell HB51.out hHeld.2.2.2.2⟩
      clear hKq Kq
      (try simp only [Act.put, tC, tD, tE])
      refine tA 14 ⟨some 98, .unOp .not 4 (.tmp 97), 4, "law.go:104", #[⟨13, .data⟩, ⟨6, .guard⟩], some (6, false)⟩ ?vdtm13 ?rdtm13
      (try simp only [Act.put, tC, tD, tE])
      refine tA 15 ⟨some 99, .pick (.tmp 90) (.const (.bool true)) (.tmp 98), 4, "law.go:104", #[⟨6, .data⟩, ⟨14, .data⟩], none⟩ ?vdtm14 ?rdtm14
      (try simp only [Act.put, tC, tD, tE])
      refine tA 16 ⟨some 100, .move (.tmp 99), 4, "law.go:104", #[⟨15, .data⟩, ⟨13, .chain⟩], none⟩ ?vdtm15 ?rdtm15
      (try simp only [Act.put, tC, tD, tE])
      refine tA 17 ⟨some 101, .move (.tmp 11), 60, "law.go:104", #[⟨16, .guard⟩], some (16, false)⟩ ?vdtm16 ?rdtm16
      (try simp only [Act.put, tC, tD, tE])
      refine tA 18 ⟨some 102, .move (.tmp 13), 3, "law.go:104", #[⟨16, .guard⟩], some (16, false)⟩ ?vdtm17 ?rdtm17
      (try simp only [Act.put, tC, tD, tE])
      refine tA 19 ⟨some 103, .indexAddr 60 (.tmp 101) (.tmp 102), 0, "law.go:104", #[⟨17, .data⟩, ⟨18, .data⟩, ⟨16, .guard⟩], some (16, false)⟩ ?vdtm18 ?rdtm18
      (try simp only [Act.put, tC, tD, tE])
      refine tA 20 ⟨some 104, .load 59 (.tmp 103), 59, "law.go:104", #[⟨19, .data⟩, ⟨16, .guard⟩], some (16, false)⟩ ?vdtm19 ?rdtm19
      (try simp only [Act.put, tC, tD, tE])
      refine tA 22 ⟨some 106, .build 27 #[], 27, "law.go:104", #[⟨16, .guard⟩], some (16, false)⟩ ?vdtm20 ?rdtm20
      (try simp only [Act.put, tC, tD, tE])
      refine wpAnyH_ready (rs := [21]) (by kernel_rfl) (by simp) ?_
      refine AllReadyH.cons (o := ⟨some 105, .call ⟨.value (.func 18), #[.tmp 104], #[59]⟩, 27, "law.go:104", #[⟨20, .data⟩, ⟨16, .chain⟩, ⟨16, .guard⟩], some (16, false)⟩) rfl (fun Kq hKq => ?_) AllReadyH.nil
      go_simp
      (refine ((HVE.out _ HC51.out).1).mono ?_; rintro e w52 ⟨rfl, hb52⟩; have HB52 := Lib.hid hb52; have HC52 := Lib.hid (HC51.out.trans (hb52.mono HC51.out.size)); clear hb52)
      refine hKq.out _ _ ?_ (fun hHeld => ?_)
      · exact ⟨bcell HB52.out hHeld.1, bcell HB52.out hHeld.2.1, bcell HB52.out hHeld.2.2.1, bcell HB52.out hHeld.2.2.2.1, bcell HB52.out hHeld.2.2.2.2⟩
      clear hKq Kq
      (try simp only [Act.put, tC, tD, tE])
      refine tA 23 ⟨some 107, .binOp .neq 27 (.tmp 105) (.tmp 106) 27, 4, "law.go:104", #[⟨21, .data⟩, ⟨22, .data⟩, ⟨16, .guard⟩], some (16, false)⟩ ?vdtm21 ?rdtm21
      (try simp only [Act.put, tC, tD, tE])
      refine tA 24 ⟨some 108, .pick (.tmp 100) (.const (.bool true)) (.tmp 107), 4, "law.go:104", #[⟨16, .data⟩, ⟨23, .data⟩], none⟩ ?vdtm22 ?rdtm22
      (try simp only [Act.put, tC, tD, tE])
      refine tA 25 ⟨some 109, .move (.tmp 108), 4, "law.go:104", #[⟨24, .data⟩, ⟨21, .chain⟩], none⟩ ?vdtm23 ?rdtm23
      (try simp only [Act.put, tC, tD, tE])
      refine tA 26 ⟨some 110, .move (.tmp 12), 62, "law.go:104", #[⟨25, .guard⟩], some (25, false)⟩ ?vdtm24 ?rdtm24
      (try simp only [Act.put, tC, tD, tE])
      refine tA 27 ⟨some 111, .move (.tmp 13), 3, "law.go:104", #[⟨25, .guard⟩], some (25, false)⟩ ?vdtm25 ?rdtm25
      (try simp only [Act.put, tC, tD, tE])
      refine tA 28 ⟨some 112, .indexAddr 62 (.tmp 110) (.tmp 111), 0, "law.go:104", #[⟨26, .data⟩, ⟨27, .data⟩, ⟨25, .guard⟩], some (25, false)⟩ ?vdtm26 ?rdtm26
      (try simp only [Act.put, tC, tD, tE])
      refine tA 29 ⟨some 113, .load 61 (.tmp 112), 61, "law.go:104", #[⟨28, .data⟩, ⟨25, .guard⟩], some (25, false)⟩ ?vdtm27 ?rdtm27
      (try simp only [Act.put, tC, tD, tE])
      refine wpAnyH_ready (rs := [30]) (by kernel_rfl) (by simp) ?_
      refine AllReadyH.cons (o := ⟨some 114, .call ⟨.value (.func 19), #[.tmp 113], #[61]⟩, 4, "law.go:104", #[⟨29, .data⟩, ⟨25, .chain⟩, ⟨25, .guard⟩], some (25, false)⟩) rfl (fun Kq hKq => ?_) AllReadyH.nil
      go_simp
      (refine ((HVO.out _ HC52.out).2.1).mono ?_; rintro e w53 ⟨rfl, hb53⟩; have HB53 := Lib.hid hb53; have HC53 := Lib.hid (HC52.out.trans (hb53.mono HC52.out.size)); clear hb53)
      refine hKq.out _ _ ?_ (fun hHeld => ?_)
      · exact ⟨bcell HB53.out hHeld.1, bcell HB53.out hHeld.2.1, bcell HB53.out hHeld.2.2.1, bcell HB53.out hHeld.2.2.2.1, bcell HB53.out hHeld.2.2.2.2⟩
      clear hKq Kq
      (try simp only [Act.put, tC, tD, tE])
      refine tA 31 ⟨some 115, .unOp .not 4 (.tmp 114), 4, "law.go:104", #[⟨30, .data⟩, ⟨25, .guard⟩], some (25, false)⟩ ?vdtm28 ?rdtm28
      (try simp only [Act.put, tC, tD, tE])
      refine tA 32 ⟨some 116, .pick (.tmp 109) (.const (.bool true)) (.tmp 115), 4, "law.go:104", #[⟨25, .data⟩, ⟨31, .data⟩], none⟩ ?vdtm29 ?rdtm29
      (try simp only [Act.put, tC, tD, tE])
      refine tA 33 ⟨some 117, .move (.tmp 116), 4, "law.go:104", #[⟨32, .data⟩, ⟨30, .chain⟩], none⟩ ?vdtm30 ?rdtm30
      (try simp only [Act.put, tC, tD, tE])
      refine tA 34 ⟨some 118, .move (.tmp 12), 62, "law.go:104", #[⟨33, .guard⟩], some (33, false)⟩ ?vdtm31 ?rdtm31
      (try simp only [Act.put, tC, tD, tE])
      refine tA 35 ⟨some 119, .move (.tmp 13), 3, "law.go:104", #[⟨33, .guard⟩], some (33, false)⟩ ?vdtm32 ?rdtm32
      (try simp only [Act.put, tC, tD, tE])
      refine tA 36 ⟨some 120, .indexAddr 62 (.tmp 118) (.tmp 119), 0, "law.go:104", #[⟨34, .data⟩, ⟨35, .data⟩, ⟨33, .guard⟩], some (33, false)⟩ ?vdtm33 ?rdtm33
      (try simp only [Act.put, tC, tD, tE])
      refine tA 37 ⟨some 121, .load 61 (.tmp 120), 61, "law.go:104", #[⟨36, .data⟩, ⟨33, .guard⟩], some (33, false)⟩ ?vdtm34 ?rdtm34
      (try simp only [Act.put, tC, tD, tE])
      refine tA 38 ⟨some 122, .fieldAddr 38 (.tmp 8) 0, 0, "law.go:104", #[⟨33, .guard⟩], some (33, false)⟩ ?vdtm35 ?rdtm35
      (try simp only [Act.put, tC, tD, tE])
      refine tA 39 ⟨some 123, .load 35 (.tmp 122), 35, "law.go:104", #[⟨38, .data⟩, ⟨33, .guard⟩], some (33, false)⟩ ?vdtm36 ?rdtm36
      (try simp only [Act.put, tC, tD, tE])
      refine wpAnyH_ready (rs := [40]) (by kernel_rfl) (by simp) ?_
      refine AllReadyH.cons (o := ⟨some 124, .call ⟨.value (.func 20), #[.tmp 121, .tmp 123], #[61, 35]⟩, 4, "law.go:104", #[⟨37, .data⟩, ⟨39, .data⟩, ⟨33, .chain⟩, ⟨33, .guard⟩], some (33, false)⟩) rfl (fun Kq hKq => ?_) AllReadyH.nil
      go_simp
      (refine ((HVO.out _ HC53.out).2.2 _).mono ?_; rintro e w54 ⟨rfl, hb54⟩; have HB54 := Lib.hid hb54; have HC54 := Lib.hid (HC53.out.trans (hb54.mono HC53.out.size)); clear hb54)
      refine hKq.out _ _ ?_ (fun hHeld => ?_)
      · exact ⟨bcell HB54.out hHeld.1, bcell HB54.out hHeld.2.1, bcell HB54.out hHeld.2.2.1, bcell HB54.out hHeld.2.2.2.1, bcell HB54.out hHeld.2.2.2.2⟩
      clear hKq Kq
      (try simp only [Act.put, tC, tD, tE])
      refine tA 41 ⟨some 125, .unOp .not 4 (.tmp 124), 4, "law.go:104", #[⟨40, .data⟩, ⟨33, .guard⟩], some (33, false)⟩ ?vdtm37 ?rdtm37
      (try simp only [Act.put, tC, tD, tE])
      refine tA 42 ⟨some 126, .pick (.tmp 117) (.const (.bool true)) (.tmp 125), 4, "law.go:104", #[⟨33, .data⟩, ⟨41, .data⟩], none⟩ ?vdtm38 ?rdtm38
      (try simp only [Act.put, tC, tD, tE])
      refine tA 43 ⟨some 127, .move (.tmp 126), 4, "law.go:104", #[⟨42, .data⟩, ⟨40, .chain⟩], none⟩ ?vdtm39 ?rdtm39
      (try simp only [Act.put, tC, tD, tE])
      refine tA 44 ⟨some 128, .load 27 (.tmp 14), 27, "law.go:104", #[⟨43, .guard⟩], some (43, false)⟩ ?vdtm40 ?rdtm40
      (try simp only [Act.put, tC, tD, tE])
      refine tA 45 ⟨some 129, .build 27 #[], 27, "law.go:104", #[⟨43, .guard⟩], some (43, false)⟩ ?vdtm41 ?rdtm41
      (try simp only [Act.put, tC, tD, tE])
      refine tA 46 ⟨some 130, .binOp .neq 27 (.tmp 128) (.tmp 129) 27, 4, "law.go:104", #[⟨44, .data⟩, ⟨45, .data⟩, ⟨43, .guard⟩], some (43, false)⟩ ?vdtm42 ?rdtm42
      (try simp only [Act.put, tC, tD, tE])
      refine tA 47 ⟨some 131, .pick (.tmp 127) (.const (.bool true)) (.tmp 130), 4, "law.go:104", #[⟨43, .data⟩, ⟨46, .data⟩], none⟩ ?vdtm43 ?rdtm43
      (try simp only [Act.put, tC, tD, tE])
      refine tA 48 ⟨some 132, .move (.tmp 131), 4, "law.go:104", #[⟨47, .data⟩, ⟨43, .chain⟩], none⟩ ?vdtm44 ?rdtm44
      (try simp only [Act.put, tC, tD, tE])
      refine tA 49 ⟨some 133, .move (.tmp 15), 24, "law.go:104", #[⟨48, .guard⟩], some (48, false)⟩ ?vdtm45 ?rdtm45
      (try simp only [Act.put, tC, tD, tE])
      refine tA 50 ⟨some 134, .binOp .neq 24 (.tmp 133) (.const (.int .u32 0)) 24, 4, "law.go:104", #[⟨49, .data⟩, ⟨48, .guard⟩], some (48, false)⟩ ?vdtm46 ?rdtm46
      (try simp only [Act.put, tC, tD, tE])
      refine tA 51 ⟨some 135, .pick (.tmp 132) (.const (.bool true)) (.tmp 134), 4, "law.go:104", #[⟨48, .data⟩, ⟨50, .data⟩], none⟩ ?vdtm47 ?rdtm47
      (try simp only [Act.put, tC, tD, tE])
      refine wpAnyH_done (by kernel_rfl) ?_ _
      clear hHeld
      go_wp2_with fail
      go_roundg (2 - (i + 1))
      case measure => have := HIN.out; omega
      case rel => exact ⟨i + 1, by have := HIN.out; omega, rfl, by go_num, HBX.out.trans (HC54.out.mono HBX.out.size)⟩
    · obtain rfl : i = 2 := by omega
      have HBX := Lib.hid hbx
      clear hbx hin hi
      go_upto_region 19 with (go_at_call 13; refine (HNE.out _).mono ?_; rintro e w20 ⟨v, rfl, hne⟩)
      obtain ⟨Z, rfl, hwa, hb20, hzi, _⟩ := hne
      have hb720 : Below w7.heap.size w7 w20 := (HB70.out.trans (HBX.out.mono HB70.out.size)).trans (hb20.mono (Nat.le_trans HB70.out.size HBX.out.size))
      have e0 : w20.cell? ⟨Z.B, 0, none⟩ = some (.slice (some ⟨Z.PB, 0, none⟩) 4 4) := cell_row hwa.b 0
      have e1 : w20.cell? ⟨Z.B, 1, none⟩ = some (.int .i64 0) := by rw [← hzi]; exact cell_row hwa.b 1
      have HEO := Lib.hid (fun (W : World) (hb : Below w20.heap.size w20 W) => eover_s (bcell hb e0) (bcell hb e1)); have HES := Lib.hid (fun (W : World) (hb : Below w20.heap.size w20 W) => estep_s (bcell hb e0) (bcell hb e1))
      have HSA := Lib.hid (fun (W : World) (hb : Below w20.heap.size w20 W) => pair_all ((HB7.out.new hb720).new hb) (by omega) (by omega))
      have HPF := Lib.hid (fun (W : World) (hb : Below w20.heap.size w20 W) => (And.intro (show W.cell? ⟨PB, 0, none⟩ = some (Pw X.wB) from bcell (hb720.trans (hb.mono hb720.size)) (cell_row HP7.out 0)) (show W.cell? ⟨PB, 1, none⟩ = some (Pw Y.wB) from bcell (hb720.trans (hb.mono hb720.size)) (cell_row HP7.out 1))))
      have HBZ := Lib.hid (HB1.out.trans ((HBW.out.trans (hb720.mono HBW.out.size)).mono HB1.out.size))
      clear hwa hb20 hb720 hzi e0 e1 HEL HP9 HBX HNE
      go_wp2_with (first
        | (go_at_call 17; refine (HES.out _ (Below.refl _ _)).mono ?_; rintro e w70 ⟨rfl, hb70⟩; have HC70 := Lib.hid hb70; clear hb70)
        | (go_at_call 16; refine (HEO.out _ HC70.out).mono ?_; rintro e w71 ⟨rfl, hb71⟩; have HC71 := Lib.hid (HC70.out.trans (hb71.mono HC70.out.size)); obtain ⟨c0, c1⟩ := HPF.out _ HC71.out; clear hb71)
        | (go_at_call 21; refine (HSA.out _ HC71.out).mono ?_; rintro e w72 ⟨rfl, hb72⟩; have HC72 := Lib.hid (HC71.out.trans (hb72.mono HC71.out.size)); clear hb72)
        | (go_at_call 22; refine (HLV.out _).mono ?_; rintro e w73 ⟨rfl, hb73⟩; have HC73 := Lib.hid (HC72.out.trans (hb73.mono HC72.out.size)); clear hb73))
      go_ret
      exact ⟨rfl, HBZ.out.trans (HC73.out.mono HBZ.out.size)⟩
end Go.Proofs.YtokplfkhpjcfcaaGreat.S15
