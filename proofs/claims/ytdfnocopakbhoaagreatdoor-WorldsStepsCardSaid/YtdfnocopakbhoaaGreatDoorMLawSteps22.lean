/- Texts of this seat, one behind the other. -/
import Derived.Test.YtdfnocopakbhoaaGreatDoorMLawSteps20
import Derived.Test.YtdfnocopakbhoaaGreatDoorMLawSteps21
namespace Go.Proofs.YtdfnocopakbhoaaGreatDoor.S12
open Go.Proofs.YtdfnocopakbhoaaGreatDoor Go.Proofs.YtdfnocopakbhoaaGreatDoor.S11
open Go.RowKit

/-- May a config be? -/
def okC (spin : Int) (n : Nat) : Bool := decide (0 ≤ spin) && (decide (spin ≤ 16) && decide ((n : Int) ≤ 65536))
theorem mayBe_any (spin most : Int) (n c : Nat) (A : Option Addr) (w : World) : Calls Tryz.prog 32 #[.agg #[.int .i64 spin, .int .u64 most, .slice A n c]] w fun e w' => e = .returned (.bool (okC spin n)) ∧ Below w.heap.size w w' := by
  have HB : Hid (Below w.heap.size w (w.alloc (.cells #[.int .i64 spin, .int .u64 most, .slice A n c] 25))) := Lib.hid ((Below.refl _ _).alloc (Nat.le_refl _) _)
  unfold okC
  cases h1 : decide (0 ≤ spin)
  · go_enter Tryz.func32, Tryz.ntmps32
    go_wp2
    go_ret
    exact ⟨rfl, HB.out⟩
  · cases h2 : decide (spin ≤ 16)
    · go_enter Tryz.func32, Tryz.ntmps32
      go_wp2
      go_ret
      exact ⟨rfl, HB.out⟩
    · cases h3 : decide ((n : Int) ≤ 65536)
      · go_enter Tryz.func32, Tryz.ntmps32
        go_wp2
        go_ret
        exact ⟨rfl, HB.out⟩
      · go_enter Tryz.func32, Tryz.ntmps32
        go_wp2
        go_ret
        exact ⟨rfl, HB.out⟩
theorem new_no (spin most : Int) (n c : Nat) (A : Option Addr) (h : okC spin n = false) (w : World) : Calls Tryz.prog 6 #[.agg #[.int .i64 spin, .int .u64 most, .slice A n c]] w fun e w' => e = .returned (.tuple #[.pointer none, .int .i64 1]) ∧ Below w.heap.size w w' := by
  have hb : Below w.heap.size w (w.alloc (.cells #[.int .i64 spin, .int .u64 most, .slice A n c] 25)) := (Below.refl _ _).alloc (Nat.le_refl _) _
  have HB := Lib.hid hb
  have HM := Lib.hid (mayBe_any spin most n c A)
  rw [h] at HM
  have hnew := heap_alloc_new w (.cells #[.int .i64 spin, .int .u64 most, .slice A n c] 25)
  have c0 := cell_row hnew 0; have c1 := cell_row hnew 1; have c2 := cell_row hnew 2
  simp only [List.getElem?_toArray, List.getElem?_cons_zero, List.getElem?_cons_succ] at c0 c1 c2
  clear hb hnew h
  go_enter Tryz.func6, Tryz.ntmps6
  go_upto_region 1 with (fail)
  generalize w.alloc (.cells #[.int .i64 spin, .int .u64 most, .slice A n c] 25) = wb at *
  go_wp2_with (go_at_call 32; refine (HM.out _).mono ?_; rintro e w1 ⟨rfl, hb1⟩)
  go_ret2
  exact ⟨rfl, HB.out.trans (hb1.mono HB.out.size)⟩
/-- A world as at first. -/
structure At0 (X : Wm) (spin : Int) (most : Nat) (D : List Nat) : Prop where
  L : X.L = L02
  n : X.n = 0
  k : X.k = 0
  a : X.a = 0
  was : X.was = 0
  is : X.is = 0
  T : X.T = 0
  most : X.most = most
  D : X.D = D
  pf : X.pf = fun _ => S4.pk0
  pn : X.pn = 0
  pk : X.pk = 0
  pp : X.pp = 0
  lk : X.lk = S5.S0
  tn : X.tn = 1
  tM : X.tM = S10.M0 0
  nD : X.nD = []
  sp : X.sp = spin
def NewW (w w' : World) (spin : Int) (most : Nat) (D : List Nat) (e : Ending) : Prop := ∃ X, e = .returned (.tuple #[Pw X.wB, .int .i64 0]) ∧ PW w' w.heap.size X ∧ At0 X spin most D ∧ Below w.heap.size w w'
set_option maxRecDepth 100000 in
set_option maxHeartbeats 4000000 in
theorem new_yes {w : World} (spin : Int) (most n c : Nat) (A : Option Addr) {D : List Nat} (h : okC spin n = true)
    (hck : ∀ W, Below w.heap.size w W → Calls Tryz.prog 34 #[.slice A n c, .int .u64 (most : Int)] W (S3.Made W 0 most D)) :
    Calls Tryz.prog 6 #[.agg #[.int .i64 spin, .int .u64 (most : Int), .slice A n c]] w fun e w' => NewW w w' spin most D e := by
  have hb : Below w.heap.size w (w.alloc (.cells #[.int .i64 spin, .int .u64 (most : Int), .slice A n c] 25)) := (Below.refl _ _).alloc (Nat.le_refl _) _
  have HB := Lib.hid hb
  have HM := Lib.hid (mayBe_any spin (most : Int) n c A)
  rw [h] at HM
  have HCK := Lib.hid hck
  have hnew := heap_alloc_new w (.cells #[.int .i64 spin, .int .u64 (most : Int), .slice A n c] 25)
  have c0 := cell_row hnew 0; have c1 := cell_row hnew 1; have c2 := cell_row hnew 2
  obtain ⟨B0, hB0⟩ : ∃ B0, B0 = w.heap.size := ⟨_, rfl⟩
  rw [← hB0] at c0 c1 c2
  simp only [List.getElem?_toArray, List.getElem?_cons_zero, List.getElem?_cons_succ] at c0 c1 c2
  have HB0 := Lib.hid hB0
  clear hb hnew h hck hB0
  go_enter Tryz.func6, Tryz.ntmps6
  go_upto_region 1 with (fail)
  rw [← HB0.out]
  generalize w.alloc (.cells #[.int .i64 spin, .int .u64 (most : Int), .slice A n c] 25) = wa at *
  go_upto_region 3 with (go_at_call 32; refine (HM.out _).mono ?_; rintro e wb ⟨rfl, hb1⟩)
  have HBW : Hid (Below w.heap.size w wb) := Lib.hid (HB.out.trans (hb1.mono HB.out.size))
  have HC : Hid (∀ W, Below wb.heap.size wb W → W.cell? ⟨B0, 0, none⟩ = some (.int .i64 spin) ∧ W.cell? ⟨B0, 1, none⟩ = some (.int .u64 (most : Int)) ∧ W.cell? ⟨B0, 2, none⟩ = some (.slice A n c)) := Lib.hid (fun W q => ⟨bcell (hb1.trans (q.mono hb1.size)) c0, bcell (hb1.trans (q.mono hb1.size)) c1, bcell (hb1.trans (q.mono hb1.size)) c2⟩)
  clear hb1 c0 c1 c2
  refine wp_region_held_drew (S := fun w' => w'.cell? ⟨B0, 0, none⟩ = some (.int .i64 spin) ∧ w'.cell? ⟨B0, 1, none⟩ = some (.int .u64 (most : Int)) ∧ w'.cell? ⟨B0, 2, none⟩ = some (.slice A n c)) (by kernel_rfl) ?_ (fun hHeld => ?_)
  · exact HC.out _ ((Below.refl _ _).drew)
  refine wpAnyH_take (i := 0) (oi := ({ dst := some 8, op := Op.build 98 #[(0, Operand.const (Value.int IntKind.u32 0)), (1, Operand.const (Value.int IntKind.u64 2))], type := 98, pos := "worlds.go:42", after := #[], guard := none } : Oper)) (v := ?vax1) rfl (by kernel_rfl) (by kernel_rfl) (by kernel_rfl) (fun _ _ _ h => h) (Or.inl ⟨by rfl, fun w hSw => ?hyax1⟩) (by assumption) ?rax1
  case hyax1 => (try dsimp only at hSw); go_simp; (try with_reducible rfl)
  (try simp only [Act.put, List.setIfInBounds_toArray, List.set_cons_zero, List.set_cons_succ])
  refine wpAnyH_take (i := 3) (oi := ({ dst := some 11, op := Op.fieldAddr 25 (Operand.tmp 1) 2, type := 0, pos := "worlds.go:42", after := #[], guard := none } : Oper)) (v := ?vax2) rfl (by kernel_rfl) (by kernel_rfl) (by kernel_rfl) (fun _ _ _ h => h) (Or.inl ⟨by rfl, fun w hSw => ?hyax2⟩) (by assumption) ?rax2
  case hyax2 => (try dsimp only at hSw); go_simp; (try with_reducible rfl)
  (try simp only [Act.put, List.setIfInBounds_toArray, List.set_cons_zero, List.set_cons_succ])
  refine wpAnyH_take (i := 4) (oi := ({ dst := some 12, op := Op.load 23 (Operand.tmp 11), type := 23, pos := "worlds.go:42", after := #[{ on := 3, ground := Ground.data }], guard := none } : Oper)) (v := ?vax3) rfl (by kernel_rfl) (by kernel_rfl) (by kernel_rfl) (fun _ _ _ h => h) (Or.inl ⟨by rfl, fun w hSw => ?hyax3⟩) (by assumption) ?rax3
  case hyax3 => (try dsimp only at hSw); go_simp; (try with_reducible rfl)
  (try simp only [Act.put, List.setIfInBounds_toArray, List.set_cons_zero, List.set_cons_succ])
  refine wpAnyH_take (i := 5) (oi := ({ dst := some 13, op := Op.fieldAddr 25 (Operand.tmp 1) 1, type := 0, pos := "worlds.go:42", after := #[], guard := none } : Oper)) (v := ?vax4) rfl (by kernel_rfl) (by kernel_rfl) (by kernel_rfl) (fun _ _ _ h => h) (Or.inl ⟨by rfl, fun w hSw => ?hyax4⟩) (by assumption) ?rax4
  case hyax4 => (try dsimp only at hSw); go_simp; (try with_reducible rfl)
  (try simp only [Act.put, List.setIfInBounds_toArray, List.set_cons_zero, List.set_cons_succ])
  refine wpAnyH_take (i := 6) (oi := ({ dst := some 14, op := Op.load 22 (Operand.tmp 13), type := 22, pos := "worlds.go:42", after := #[{ on := 5, ground := Ground.data }], guard := none } : Oper)) (v := ?vax5) rfl (by kernel_rfl) (by kernel_rfl) (by kernel_rfl) (fun _ _ _ h => h) (Or.inl ⟨by rfl, fun w hSw => ?hyax5⟩) (by assumption) ?rax5
  case hyax5 => (try dsimp only at hSw); go_simp; (try with_reducible rfl)
  (try simp only [Act.put, List.setIfInBounds_toArray, List.set_cons_zero, List.set_cons_succ])
  refine wpAnyH_take (i := 12) (oi := ({ dst := some 20, op := Op.fieldAddr 25 (Operand.tmp 1) 0, type := 0, pos := "worlds.go:42", after := #[], guard := none } : Oper)) (v := ?vax6) rfl (by kernel_rfl) (by kernel_rfl) (by kernel_rfl) (fun _ _ _ h => h) (Or.inl ⟨by rfl, fun w hSw => ?hyax6⟩) (by assumption) ?rax6
  case hyax6 => (try dsimp only at hSw); go_simp; (try with_reducible rfl)
  (try simp only [Act.put, List.setIfInBounds_toArray, List.set_cons_zero, List.set_cons_succ])
  refine wpAnyH_take (i := 13) (oi := ({ dst := some 21, op := Op.load 3 (Operand.tmp 20), type := 3, pos := "worlds.go:42", after := #[{ on := 12, ground := Ground.data }], guard := none } : Oper)) (v := ?vax7) rfl (by kernel_rfl) (by kernel_rfl) (by kernel_rfl) (fun _ _ _ h => h) (Or.inl ⟨by rfl, fun w hSw => ?hyax7⟩) (by assumption) ?rax7
  case hyax7 => (try dsimp only at hSw); go_simp; (try with_reducible rfl)
  (try simp only [Act.put, List.setIfInBounds_toArray, List.set_cons_zero, List.set_cons_succ])
  refine wpAnyH_ready (rs := [1]) (by kernel_rfl) (by simp) ?_
  refine AllReadyH.cons (o := ({ dst := some 9, op := Op.buildSlice 195 1 #[(0, Operand.tmp 8)], type := 195, pos := "worlds.go:42", after := #[{ on := 0, ground := Ground.data }], guard := none } : Oper)) rfl (fun Kq hKq => ?_) AllReadyH.nil
  go_simp
  have R1 : Hid (Below w.heap.size w (wb.alloc (.cells #[.int .u32 0, .int .u64 2] 98)).drew) := Lib.hid (HBW.out.alloc HBW.out.size _).drew
  have C1 : Hid ((wb.alloc (.cells #[.int .u32 0, .int .u64 2] 98)).drew.heap[wb.heap.size]? = some (.cells #[.int .u32 0, .int .u64 2] 98)) := Lib.hid (heap_alloc_new wb _)
  have S1 : Hid (∀ W, Below (wb.alloc (.cells #[.int .u32 0, .int .u64 2] 98)).drew.heap.size (wb.alloc (.cells #[.int .u32 0, .int .u64 2] 98)).drew W → W.cell? ⟨B0, 0, none⟩ = some (.int .i64 spin) ∧ W.cell? ⟨B0, 1, none⟩ = some (.int .u64 (most : Int)) ∧ W.cell? ⟨B0, 2, none⟩ = some (.slice A n c)) := Lib.hid (fun W q => HC.out W ((((Below.refl _ wb).alloc (Nat.le_refl _) _).drew).trans (q.mono (by simp))))
  have hnb := C1.out
  have HSZ : Hid (wb.heap.size < (wb.alloc (.cells #[.int .u32 0, .int .u64 2] 98)).drew.heap.size) := Lib.hid (Array.getElem?_eq_some_iff.1 hnb).1
  clear hnb HC
  generalize (wb.alloc (.cells #[.int .u32 0, .int .u64 2] 98)).drew = w1 at *
  generalize wb.heap.size = bs at *
  have HIN : Hid (S2.WIn w1 w1.heap.size (some ⟨bs, 0, none⟩) 1 (fun _ => 0) (fun _ => 2)) := Lib.hid (fun _ => ⟨bs, 0, rfl, HSZ.out, fun i hi => (show ∀ i, i = 0 → (w1.cell? ⟨bs, 0 + i * 2, none⟩ = some (.int .u32 (((fun _ => 0) i : Nat) : Int)) ∧ w1.cell? ⟨bs, 0 + i * 2 + 1, none⟩ = some (.int .u64 (((fun _ => 2) i : Nat) : Int))) from fun i e => by rw [e]; exact ⟨cell_row C1.out 0, cell_row C1.out 1⟩) i (by omega)⟩)
  have PP0 : Hid (Parts w1 w.heap.size []) := Lib.hid ((parts_nil w).new R1.out)
  refine hKq.out _ _ ?_ (fun hHeld => ?_)
  · exact S1.out _ (Below.refl _ _)
  clear hKq Kq
  (try simp only [Act.put, List.setIfInBounds_toArray, List.set_cons_zero, List.set_cons_succ])
  refine wpAnyH_ready (rs := [2]) (by kernel_rfl) (by simp) ?_
  refine AllReadyH.cons (o := ({ dst := some 10, op := Op.call { callee := Callee.value (Operand.func 33), args := #[Operand.tmp 9], argTypes := #[195] }, type := 39, pos := "worlds.go:44", after := #[{ on := 1, ground := Ground.data }], guard := none } : Oper)) rfl (fun Kq hKq => ?_) AllReadyH.nil
  go_simp
  (refine (S2.new_any (some ⟨bs, 0, none⟩) 1 1 (fun _ => 0) (fun _ => 2) (by omega) (fun i _ => ⟨by simp, by simp⟩) w1 HIN.out).mono ?_; rintro e w2 ⟨rfl, hst, hb⟩)
  obtain ⟨M, hcm, hmm⟩ := hst.own
  have PP1 : Hid (Parts w2 w.heap.size [cellsP w1.heap.size M L02 0 0 0 0 0]) := Lib.hid (PP0.out.push (cellsP w1.heap.size M L02 0 0 0 0 0) (hb) hcm (fun k e => Or.elim (show k = w1.heap.size ∨ M = some k from e) (fun e => Nat.le_of_eq e.symm) (fun e => hmm k e)))
  have R2 : Hid (Below w.heap.size w w2) := Lib.hid (R1.out.trans (hb.mono R1.out.size))
  have B2 : Hid (Below w1.heap.size w1 w2) := Lib.hid (hb)
  clear hb hst hcm hmm
  refine hKq.out _ _ ?_ (fun hHeld => ?_)
  · exact S1.out _ B2.out
  clear hKq Kq
  (try simp only [Act.put, List.setIfInBounds_toArray, List.set_cons_zero, List.set_cons_succ])
  refine wpAnyH_ready (rs := [7]) (by kernel_rfl) (by simp) ?_
  refine AllReadyH.cons (o := ({ dst := some 15, op := Op.call { callee := Callee.value (Operand.func 34), args := #[Operand.tmp 12, Operand.tmp 14], argTypes := #[23, 22] }, type := 40, pos := "worlds.go:45", after := #[{ on := 4, ground := Ground.data }, { on := 6, ground := Ground.data }, { on := 2, ground := Ground.chain }], guard := none } : Oper)) rfl (fun Kq hKq => ?_) AllReadyH.nil
  go_simp
  (refine (HCK.out w2 R2.out).mono ?_; rintro e w3 ⟨kB, ks, rfl, hkl, hcl, hb⟩)
  have PP2 : Hid (Parts w3 w.heap.size [cellsP w1.heap.size M L02 0 0 0 0 0, clockP w2.heap.size kB 0 most ks D]) := Lib.hid (PP1.out.push (clockP w2.heap.size kB 0 most ks D) (hb) hcl (fun k e => Or.elim (show k = kB ∨ ks.ownBlock = some k from e) (fun e => by rw [e]; exact hkl) (fun e => (hcl.own.lt k e).1)))
  have R3 : Hid (Below w.heap.size w w3) := Lib.hid (R2.out.trans (hb.mono R2.out.size))
  have B3 : Hid (Below w1.heap.size w1 w3) := Lib.hid (B2.out.trans (hb.mono B2.out.size))
  clear hb hkl hcl
  refine hKq.out _ _ ?_ (fun hHeld => ?_)
  · exact S1.out _ B3.out
  clear hKq Kq
  (try simp only [Act.put, List.setIfInBounds_toArray, List.set_cons_zero, List.set_cons_succ])
  refine wpAnyH_ready (rs := [8]) (by kernel_rfl) (by simp) ?_
  refine AllReadyH.cons (o := ({ dst := some 16, op := Op.call { callee := Callee.value (Operand.func 35), args := #[], argTypes := #[] }, type := 41, pos := "worlds.go:46", after := #[{ on := 7, ground := Ground.chain }], guard := none } : Oper)) rfl (fun Kq hKq => ?_) AllReadyH.nil
  go_simp
  (refine (S4.pnew_any w3).mono ?_; rintro e w4 ⟨rfl, hpk, hb⟩)
  have PP3 : Hid (Parts w4 w.heap.size [cellsP w1.heap.size M L02 0 0 0 0 0, clockP w2.heap.size kB 0 most ks D, permitsP w3.heap.size (fun _ => S4.pk0) ((0 : Nat) : Int) 0 0]) := Lib.hid (PP2.out.push (permitsP w3.heap.size (fun _ => S4.pk0) ((0 : Nat) : Int) 0 0) (hb) hpk (fun k e => Nat.le_of_eq (show k = w3.heap.size from e).symm))
  have R4 : Hid (Below w.heap.size w w4) := Lib.hid (R3.out.trans (hb.mono R3.out.size))
  have B4 : Hid (Below w1.heap.size w1 w4) := Lib.hid (B3.out.trans (hb.mono B3.out.size))
  clear hb hpk
  refine hKq.out _ _ ?_ (fun hHeld => ?_)
  · exact S1.out _ B4.out
  clear hKq Kq
  (try simp only [Act.put, List.setIfInBounds_toArray, List.set_cons_zero, List.set_cons_succ])
  refine wpAnyH_ready (rs := [9]) (by kernel_rfl) (by simp) ?_
  refine AllReadyH.cons (o := ({ dst := some 17, op := Op.call { callee := Callee.value (Operand.func 36), args := #[], argTypes := #[] }, type := 42, pos := "worlds.go:47", after := #[{ on := 8, ground := Ground.chain }], guard := none } : Oper)) rfl (fun Kq hKq => ?_) AllReadyH.nil
  go_simp
  (refine (S5.new_any w4).mono ?_; rintro e w5 ⟨rfl, hlk, hb⟩)
  have PP4 : Hid (Parts w5 w.heap.size [cellsP w1.heap.size M L02 0 0 0 0 0, clockP w2.heap.size kB 0 most ks D, permitsP w3.heap.size (fun _ => S4.pk0) ((0 : Nat) : Int) 0 0, linksP w4.heap.size S5.S0]) := Lib.hid (PP3.out.push (linksP w4.heap.size S5.S0) (hb) hlk (fun k e => Nat.le_of_eq (show k = w4.heap.size from e).symm))
  have R5 : Hid (Below w.heap.size w w5) := Lib.hid (R4.out.trans (hb.mono R4.out.size))
  have B5 : Hid (Below w1.heap.size w1 w5) := Lib.hid (B4.out.trans (hb.mono B4.out.size))
  clear hb hlk
  refine hKq.out _ _ ?_ (fun hHeld => ?_)
  · exact S1.out _ B5.out
  clear hKq Kq
  (try simp only [Act.put, List.setIfInBounds_toArray, List.set_cons_zero, List.set_cons_succ])
  refine wpAnyH_ready (rs := [10]) (by kernel_rfl) (by simp) ?_
  refine AllReadyH.cons (o := ({ dst := some 18, op := Op.call { callee := Callee.value (Operand.func 37), args := #[Operand.const (Value.int IntKind.u64 0)], argTypes := #[22] }, type := 43, pos := "worlds.go:48", after := #[{ on := 9, ground := Ground.chain }], guard := none } : Oper)) rfl (fun Kq hKq => ?_) AllReadyH.nil
  go_simp
  (refine (S10.new_any 0 w5).mono ?_; rintro e w6 ⟨ts, tO, rfl, hts, hb⟩)
  obtain ⟨tB, hsx⟩ : ∃ tB, ts = Pw tB := by
    obtain ⟨sb, _, _, _, hf⟩ := hts
    exact ⟨sb, hf.hs⟩
  subst hsx
  have PP5 : Hid (Parts w6 w.heap.size [cellsP w1.heap.size M L02 0 0 0 0 0, clockP w2.heap.size kB 0 most ks D, permitsP w3.heap.size (fun _ => S4.pk0) ((0 : Nat) : Int) 0 0, linksP w4.heap.size S5.S0, tablesP w5.heap.size tO (Pw tB) 1 (S10.M0 0)]) := Lib.hid (PP4.out.push (tablesP w5.heap.size tO (Pw tB) 1 (S10.M0 0)) (hb) hts (fun k e => (hts.fp e).1))
  have R6 : Hid (Below w.heap.size w w6) := Lib.hid (R5.out.trans (hb.mono R5.out.size))
  have B6 : Hid (Below w1.heap.size w1 w6) := Lib.hid (B5.out.trans (hb.mono B5.out.size))
  clear hb hts
  refine hKq.out _ _ ?_ (fun hHeld => ?_)
  · exact S1.out _ B6.out
  clear hKq Kq
  (try simp only [Act.put, List.setIfInBounds_toArray, List.set_cons_zero, List.set_cons_succ])
  refine wpAnyH_ready (rs := [11]) (by kernel_rfl) (by simp) ?_
  refine AllReadyH.cons (o := ({ dst := some 19, op := Op.call { callee := Callee.value (Operand.func 38), args := #[], argTypes := #[] }, type := 44, pos := "worlds.go:49", after := #[{ on := 10, ground := Ground.chain }], guard := none } : Oper)) rfl (fun Kq hKq => ?_) AllReadyH.nil
  go_simp
  (refine (S11.new_any w6).mono ?_; rintro e w7 ⟨rfl, hnl, hb⟩)
  have PP6 : Hid (Parts w7 w.heap.size [cellsP w1.heap.size M L02 0 0 0 0 0, clockP w2.heap.size kB 0 most ks D, permitsP w3.heap.size (fun _ => S4.pk0) ((0 : Nat) : Int) 0 0, linksP w4.heap.size S5.S0, tablesP w5.heap.size tO (Pw tB) 1 (S10.M0 0), notesP 151 .u8 w6.heap.size w6.heap.size (.slice none 0 0) []]) := Lib.hid (PP5.out.push (notesP 151 .u8 w6.heap.size w6.heap.size (.slice none 0 0) []) (hb) hnl (fun k e => Or.elim (show k = w6.heap.size ∨ (Value.slice none 0 0).ownBlock = some k from e) (fun e => Nat.le_of_eq e.symm) (fun e => by cases e)))
  have R7 : Hid (Below w.heap.size w w7) := Lib.hid (R6.out.trans (hb.mono R6.out.size))
  have B7 : Hid (Below w1.heap.size w1 w7) := Lib.hid (B6.out.trans (hb.mono B6.out.size))
  clear hb hnl
  refine hKq.out _ _ ?_ (fun hHeld => ?_)
  · exact S1.out _ B7.out
  clear hKq Kq
  (try simp only [Act.put, List.setIfInBounds_toArray, List.set_cons_zero, List.set_cons_succ])
  refine wpAnyH_take (i := 14) (oi := ({ dst := some 22, op := Op.build 47 #[(0, Operand.tmp 10), (1, Operand.tmp 15), (2, Operand.tmp 16), (3, Operand.tmp 17), (4, Operand.tmp 18), (5, Operand.tmp 19), (6, Operand.tmp 21)], type := 47, pos := "worlds.go:42", after := #[{ on := 2, ground := Ground.data }, { on := 7, ground := Ground.data }, { on := 8, ground := Ground.data }, { on := 9, ground := Ground.data }, { on := 10, ground := Ground.data }, { on := 11, ground := Ground.data }, { on := 13, ground := Ground.data }], guard := none } : Oper)) (v := ?vax8) rfl (by kernel_rfl) (by kernel_rfl) (by kernel_rfl) (fun _ _ _ h => h) (Or.inl ⟨by rfl, fun w hSw => ?hyax8⟩) (by assumption) ?rax8
  case hyax8 => (try dsimp only at hSw); go_simp; (try with_reducible rfl)
  (try simp only [Act.put, List.setIfInBounds_toArray, List.set_cons_zero, List.set_cons_succ])
  refine wpAnyH_ready (rs := [15]) (by kernel_rfl) (by simp) ?_
  refine AllReadyH.cons (o := ({ dst := some 23, op := Op.box 47 (Operand.tmp 22), type := 28, pos := "worlds.go:42", after := #[{ on := 14, ground := Ground.data }], guard := none } : Oper)) rfl (fun Kq hKq => ?_) AllReadyH.nil
  go_simp
  have HX : Hid (PW (w7.alloc (.cells (Wm.cs { cB := w1.heap.size, cM := M, L := L02, n := 0, k := 0, a := 0, was := 0, is := 0, kb := w2.heap.size, kB := kB, T := 0, most := most, ks := ks, D := D, pB := w3.heap.size, pf := fun _ => S4.pk0, pn := 0, pk := 0, pp := 0, lB := w4.heap.size, lk := S5.S0, tb := w5.heap.size, tO := tO, ts := Pw tB, tn := 1, tM := S10.M0 0, nb := w6.heap.size, nB := w6.heap.size, ns := .slice none 0 0, nD := [], wB := w7.heap.size, sp := spin }) 47)) w.heap.size { cB := w1.heap.size, cM := M, L := L02, n := 0, k := 0, a := 0, was := 0, is := 0, kb := w2.heap.size, kB := kB, T := 0, most := most, ks := ks, D := D, pB := w3.heap.size, pf := fun _ => S4.pk0, pn := 0, pk := 0, pp := 0, lB := w4.heap.size, lk := S5.S0, tb := w5.heap.size, tO := tO, ts := Pw tB, tn := 1, tM := S10.M0 0, nb := w6.heap.size, nB := w6.heap.size, ns := .slice none 0 0, nD := [], wB := w7.heap.size, sp := spin }) := Lib.hid (PP6.out.push (blockP w7.heap.size (.cells (Wm.cs { cB := w1.heap.size, cM := M, L := L02, n := 0, k := 0, a := 0, was := 0, is := 0, kb := w2.heap.size, kB := kB, T := 0, most := most, ks := ks, D := D, pB := w3.heap.size, pf := fun _ => S4.pk0, pn := 0, pk := 0, pp := 0, lB := w4.heap.size, lk := S5.S0, tb := w5.heap.size, tO := tO, ts := Pw tB, tn := 1, tM := S10.M0 0, nb := w6.heap.size, nB := w6.heap.size, ns := .slice none 0 0, nD := [], wB := w7.heap.size, sp := spin }) 47)) (below1 _ _) (heap_alloc_new _ _) (fun k e => Nat.le_of_eq (show k = w7.heap.size from e).symm))
  have HXB : Hid (Below w.heap.size w (w7.alloc (.cells (Wm.cs { cB := w1.heap.size, cM := M, L := L02, n := 0, k := 0, a := 0, was := 0, is := 0, kb := w2.heap.size, kB := kB, T := 0, most := most, ks := ks, D := D, pB := w3.heap.size, pf := fun _ => S4.pk0, pn := 0, pk := 0, pp := 0, lB := w4.heap.size, lk := S5.S0, tb := w5.heap.size, tO := tO, ts := Pw tB, tn := 1, tM := S10.M0 0, nb := w6.heap.size, nB := w6.heap.size, ns := .slice none 0 0, nD := [], wB := w7.heap.size, sp := spin }) 47))) := Lib.hid (R7.out.alloc R7.out.size _)
  have HXS : Hid (Below w1.heap.size w1 (w7.alloc (.cells (Wm.cs { cB := w1.heap.size, cM := M, L := L02, n := 0, k := 0, a := 0, was := 0, is := 0, kb := w2.heap.size, kB := kB, T := 0, most := most, ks := ks, D := D, pB := w3.heap.size, pf := fun _ => S4.pk0, pn := 0, pk := 0, pp := 0, lB := w4.heap.size, lk := S5.S0, tb := w5.heap.size, tO := tO, ts := Pw tB, tn := 1, tM := S10.M0 0, nb := w6.heap.size, nB := w6.heap.size, ns := .slice none 0 0, nD := [], wB := w7.heap.size, sp := spin }) 47))) := Lib.hid (B7.out.alloc B7.out.size _)
  have HXA : Hid (At0 { cB := w1.heap.size, cM := M, L := L02, n := 0, k := 0, a := 0, was := 0, is := 0, kb := w2.heap.size, kB := kB, T := 0, most := most, ks := ks, D := D, pB := w3.heap.size, pf := fun _ => S4.pk0, pn := 0, pk := 0, pp := 0, lB := w4.heap.size, lk := S5.S0, tb := w5.heap.size, tO := tO, ts := Pw tB, tn := 1, tM := S10.M0 0, nb := w6.heap.size, nB := w6.heap.size, ns := .slice none 0 0, nD := [], wB := w7.heap.size, sp := spin } spin most D) := Lib.hid ⟨rfl, rfl, rfl, rfl, rfl, rfl, rfl, rfl, rfl, rfl, rfl, rfl, rfl, rfl, rfl, rfl, rfl, rfl⟩
  unfold Wm.cs pcells at HX HXB HXS
  dsimp only at HX HXB HXS HXA
  refine hKq.out _ _ ?_ (fun hHeld => ?_)
  · exact S1.out _ HXS.out
  clear hKq Kq
  (try simp only [Act.put, List.setIfInBounds_toArray, List.set_cons_zero, List.set_cons_succ])
  refine wpAnyH_take (i := 16) (oi := ({ dst := some 4, op := Op.assign (Operand.tmp 23), type := 28, pos := "worlds.go:42", after := #[{ on := 15, ground := Ground.data }, { on := 11, ground := Ground.chain }, { on := 0, ground := Ground.phase }, { on := 1, ground := Ground.phase }, { on := 2, ground := Ground.phase }, { on := 3, ground := Ground.phase }, { on := 4, ground := Ground.phase }, { on := 5, ground := Ground.phase }, { on := 6, ground := Ground.phase }, { on := 7, ground := Ground.phase }, { on := 8, ground := Ground.phase }, { on := 9, ground := Ground.phase }, { on := 10, ground := Ground.phase }, { on := 11, ground := Ground.phase }, { on := 12, ground := Ground.phase }, { on := 13, ground := Ground.phase }, { on := 14, ground := Ground.phase }, { on := 15, ground := Ground.phase }], guard := none } : Oper)) (v := ?vax9) rfl (by kernel_rfl) (by kernel_rfl) (by kernel_rfl) (fun _ _ _ h => h) (Or.inl ⟨by rfl, fun w hSw => ?hyax9⟩) (by assumption) ?rax9
  case hyax9 => (try dsimp only at hSw); go_simp; (try with_reducible rfl)
  (try simp only [Act.put, List.setIfInBounds_toArray, List.set_cons_zero, List.set_cons_succ])
  refine wpAnyH_done (by kernel_rfl) ?_ _
  clear hHeld S1
  go_wp2_with fail
  go_ret2
  exact ⟨_, rfl, HX.out, HXA.out, HXB.out⟩
end Go.Proofs.YtdfnocopakbhoaaGreatDoor.S12
namespace Go.Proofs.YtdfnocopakbhoaaGreatDoor.S12
open Go.Proofs.YtdfnocopakbhoaaGreatDoor Go.Proofs.YtdfnocopakbhoaaGreatDoor.S11
open Go.RowKit

/-- What a call leaves: so many accesses and calls more, these notes; tables and the rest as they were. -/
structure Nx (X X' : Wm) (dn dp : Nat) (F : List Nt) : Prop where
  wB : X'.wB = X.wB
  n : X'.n = X.n + dn
  pn : X'.pn = X.pn + dp
  nD : X'.nD = F
  tM : X'.tM = X.tM
  tn : X'.tn = X.tn
def Stp (w w' : World) (base : Nat) (X : Wm) (dn dp : Nat) (F : List Nt) : Prop := ∃ X', PW w' base X' ∧ Nx X X' dn dp F ∧ Below base w w'
section
variable {w : World} {base : Nat} {X : Wm}
theorem left_w (h : PW w base X) {w' : World} {L : S2.LL} {k a was is : Nat} (l : S2.Left w w' X.cB X.cM L (X.n + 1) k a was is) : Stp w w' base X 1 0 X.nD := by
  obtain ⟨M', hp, hb⟩ := t_cells (i := 0) h rfl l
  exact ⟨{ X with cM := M', L := L, n := X.n + 1, k := k, a := a, was := was, is := is }, hp, ⟨rfl, rfl, rfl, rfl, rfl, rfl⟩, hb⟩
theorem load_w (h : PW w base X) {a : Nat} (ha : a < 4294967296) (hn : X.n ≤ 1000000000) :
    Calls Tryz.prog 29 #[Pw X.cB, .int .u32 a] w fun e w' => e = .returned (.int .u64 (S2.look X.L a : Nat)) ∧ Stp w w' base X 1 0 X.nD := by
  refine (S2.load_any w X.cB X.cM X.L X.n X.k X.a X.was X.is a h.cells ha (by omega)).mono ?_
  rintro e w' ⟨rfl, hl⟩
  exact ⟨rfl, left_w h hl⟩
theorem unpark_w (h : PW w base X) {i : Nat} (hi : i < 128) (hn : X.pn ≤ 1000000000) :
    Calls Tryz.prog 30 #[Pw X.pB, .int .i64 (i : Int)] w fun e w' => e = .returned (.tuple #[]) ∧ Stp w w' base X 0 1 X.nD := by
  refine (S4.unpark_yes h.permits (by omega) hi).mono ?_
  rintro e w' ⟨rfl, hl⟩
  obtain ⟨hp, hb⟩ := t_permits (i := 2) h rfl hl
  exact ⟨rfl, { X with pf := _, pn := X.pn + 1, pk := _, pp := _ }, hp, ⟨rfl, rfl, rfl, rfl, rfl, rfl⟩, hb⟩
end
theorem eql94 (d : Nt) (w : World) : (binOp .eql 94 (ag .u8 d) (ag .u8 d)).run Tryz.prog w = .ok (.bool true) w := by
  obtain ⟨s, t, k, a, o, b, v⟩ := d
  simp [go_sem, Tryz.underlying94]
/-- The note of the examples. -/
abbrev nt5 : Nt := ⟨2, 5, 16, 1024, -1, 0, 0⟩
set_option maxRecDepth 100000 in
set_option maxHeartbeats 4000000 in
theorem lives_any (w : World) (hT : Tab w) : Calls Tryz.prog 5 #[] w fun e w' => e = .returned (.bool true) ∧ Below w.heap.size w w' := by
  have hck : ∀ W, Below w.heap.size w W → Calls Tryz.prog 34 #[.slice none 0 0, .int .u64 ((0 : Nat) : Int)] W (S3.Made W 0 0 []) := fun W _ => S3.new_any (D := []) (b2 := 0) 0 0 (Nat.le_refl _) (by omega) (by omega) S3.Rd.nil (Nat.zero_le _) (fun d hd => by cases hd)
  have hnew : Calls Tryz.prog 6 #[.agg #[.int .i64 3, .int .u64 0, .slice none 0 0]] w fun e w' => NewW w w' 3 0 [] e := new_yes 3 0 0 0 none (by decide) hck
  have hnot : ∀ W, Calls Tryz.prog 6 #[.agg #[.int .i64 17, .int .u64 0, .slice none 0 0]] W fun e w' => e = .returned (.tuple #[.pointer none, .int .i64 1]) ∧ Below W.heap.size W w' := fun W => new_no 17 0 0 0 none (by decide) W
  have heq := eql94 nt5
  have HT := Lib.hid hT; have HNOT := Lib.hid hnot
  clear hck hnot hT
  go_enter Tryz.func5, Tryz.ntmps5
  go_upto_region 2 with (go_at_call 6; refine hnew.mono ?_; rintro e w1 ⟨X, rfl, hp, h0, hb⟩)
  go_upto_region 3 with (go_at_call 6; refine (HNOT.out _).mono ?_; rintro e w2 ⟨rfl, hb2⟩)
  have hp2 := hp.new hb2
  have HB2 := Lib.hid (hb.trans (hb2.mono hb.size))
  have hpk : Calls Tryz.prog 24 #[Pw X.cB, .int .u32 0] w2 fun e w' => e = .returned (.int .u64 2) ∧ w2 = w' := by
    have h := S2.peek_any w2 X.cB X.cM X.L X.n X.k X.a X.was X.is 0 hp2.cells (by omega)
    rw [h0.L, show S2.look L02 0 = 2 by decide] at h
    exact h
  have hst : Calls Tryz.prog 13 #[Pw X.wB] w2 fun e w' => e = .returned (.int .i64 0) ∧ Below w2.heap.size w2 w' := by
    have h := steps_any hp2 (by rw [h0.n]; omega) (by rw [h0.pn]; omega)
    rw [h0.n, h0.pn] at h
    exact h
  have c0 := hp2.c0
  have HPK := Lib.hid hpk; have HST := Lib.hid hst; have HP2 := Lib.hid hp2; have H0 := Lib.hid h0
  clear hnew hp hb hb2 hp2 hpk hst h0
  go_upto_region 5 with (first
    | (go_at_call 24; refine HPK.out.mono ?_; rintro e w3 ⟨rfl, rfl⟩)
    | (go_at_call 13; refine HST.out.mono ?_; rintro e w3 ⟨rfl, hb3⟩))
  have hp3 := HP2.out.new hb3
  have HB3 := Lib.hid (HB2.out.trans (hb3.mono HB2.out.size))
  have c0 := hp3.c0
  have hld := load_w hp3 (a := 0) (by omega) (by rw [H0.out.n]; omega)
  have HP3 := Lib.hid hp3; have HLD := Lib.hid hld
  clear hp3 hld hb3 HPK HST HP2
  go_upto_region 6 with (go_at_call 29; refine HLD.out.mono ?_; rintro e w4 ⟨rfl, X4, hp4, hx4, hb4⟩)
  have hst : Calls Tryz.prog 13 #[Pw X.wB] w4 fun e w' => e = .returned (.int .i64 1) ∧ Below w4.heap.size w4 w' := by
    have h := steps_any hp4 (by rw [hx4.n, H0.out.n]; omega) (by rw [hx4.pn, H0.out.pn]; omega)
    rw [hx4.n, hx4.pn, hx4.wB, H0.out.n, H0.out.pn] at h
    exact h
  have HP4 := Lib.hid hp4; have HX4 := Lib.hid hx4; have HB4 := Lib.hid (HB3.out.trans hb4); have HST := Lib.hid hst
  clear hp4 hx4 hb4 hst HLD HP3 c0
  go_upto_region 7 with (go_at_call 13; refine HST.out.mono ?_; rintro e w5 ⟨rfl, hb5⟩)
  have hp5 := HP4.out.new hb5
  have HB5 := Lib.hid (HB4.out.trans (hb5.mono (PW.size HP4.out)))
  have c2 := hp5.c2
  rw [HX4.out.wB] at c2
  have hup := unpark_w hp5 (i := 0) (by omega) (by rw [HX4.out.pn, H0.out.pn]; omega)
  have hup' : Calls Tryz.prog 30 #[Pw X4.pB, .int .i64 0] w5 fun e w' => e = .returned (.tuple #[]) ∧ Stp w5 w' w.heap.size X4 0 1 X4.nD := hup
  have HUP := Lib.hid hup'
  clear hp5 hb5 HST hup hup'
  go_upto_region 8 with (go_at_call 30; refine HUP.out.mono ?_; rintro e w6 ⟨rfl, X6, hp6, hx6, hb6⟩)
  have e1 : X6.n = 1 := by rw [hx6.n, HX4.out.n, H0.out.n]
  have e2 : X6.pn = 1 := by rw [hx6.pn, HX4.out.pn, H0.out.pn]
  have e3 : X6.nD = [] := by rw [hx6.nD, HX4.out.nD, H0.out.nD]
  have e4 : X6.wB = X.wB := by rw [hx6.wB, HX4.out.wB]
  have hst : Calls Tryz.prog 13 #[Pw X.wB] w6 fun e w' => e = .returned (.int .i64 2) ∧ Below w6.heap.size w6 w' := by
    have h := steps_any hp6 (by rw [e1]; omega) (by rw [e2]; omega)
    rw [e1, e2, e4] at h
    exact h
  have HE := Lib.hid (And.intro e1 (And.intro e2 (And.intro e3 e4)))
  have HP6 := Lib.hid hp6; have HB6 := Lib.hid (HB5.out.trans hb6); have HST := Lib.hid hst
  clear e1 e2 e3 e4 hp6 hx6 hb6 hst HUP c2 HP4
  go_upto_region 9 with (go_at_call 13; refine HST.out.mono ?_; rintro e w7 ⟨rfl, hb7⟩)
  have hp7 := HP6.out.new hb7
  have HB7 := Lib.hid (HB6.out.trans (hb7.mono (PW.size HP6.out)))
  have hnt : Calls Tryz.prog 17 #[Pw X.wB, .int .i64 5, .int .u8 16, .int .u32 1024] w7 fun e w' => e = .returned (.tuple #[]) ∧ Noted w7 w' w.heap.size X6 nt5 := by
    have h := note_any hp7 (by rw [HE.out.1]; omega) (by rw [HE.out.2.1]; omega) (by rw [HE.out.2.2.1]; simp) (HT.out.below HB7.out HT.out.1) 5 1024 16 (by omega)
    rw [HE.out.1, HE.out.2.1, HE.out.2.2.2] at h
    exact h
  have HNT := Lib.hid hnt
  clear hp7 hb7 hnt HST HP6
  go_upto_region 10 with (go_at_call 17; refine HNT.out.mono ?_; rintro e w8 ⟨rfl, s8, hp8, hb8⟩)
  have hD : addD X6.nD nt5 = [nt5] := by rw [HE.out.2.2.1]; decide
  rw [hD] at hp8
  have c5 := hp8.c5
  dsimp only at c5
  rw [HE.out.2.2.2] at c5
  have hal : Calls Tryz.prog 31 #[Pw X6.nB] w8 fun e w' => S11.Told w8 w' [nt5] e := S11.all_any hp8.notes (by simp)
  have HB8 := Lib.hid (HB7.out.trans hb8); have HAL := Lib.hid hal
  clear hp8 hb8 hD hal HNT
  go_upto_region 11 with (go_at_call 31; refine HAL.out.mono ?_; rintro e w9 ⟨A9, rfl, hr9, hb9⟩)
  have HB9 := Lib.hid (HB8.out.trans (hb9.mono HB8.out.size))
  obtain ⟨g, o, rfl, hg, hN⟩ := hr9.rd.note (i := 0) (by simp)
  have hN' : S11.NtAt w9 .u8 g o nt5 := by simpa using hN
  obtain ⟨d0, d1, d2, d3, d4, d5, d6⟩ := hN'
  clear hr9 hb9 hN HAL c5
  go_wp2_with fail
  go_ret
  exact ⟨rfl, HB9.out⟩
end Go.Proofs.YtdfnocopakbhoaaGreatDoor.S12
namespace Go.Proofs.YtdfnocopakbhoaaGreatDoor.S3
open Go.Proofs.YtdfnocopakbhoaaGreatDoor
open Go.RowKit

theorem brt_same {x most : Nat} (h : x ≤ most) : brt x most = x := Nat.mod_eq_of_lt (by omega)
structure RefAt (w : World) (base R T most : Nat) (s : Value) (D : List Nat) : Prop where
  nums : Nums T most D
  row : w.heap[R]? = some (.cells #[.int .u64 T, s, .int .u64 most] 126 (0, 0))
  own : Row w base s D
  ne : s.ownBlock ≠ some R
section
variable {w w' : World} {base R T most : Nat} {s : Value} {D : List Nat}
theorem RefAt.lt (h : RefAt w base R T most s D) : R < w.heap.size := (Array.getElem?_eq_some_iff.1 h.row).1
theorem RefAt.kept {S : Nat → Prop} (h : RefAt w base R T most s D) (t : Turns S w w') (hR : ¬ S R) (hs : ∀ g, s.ownBlock = some g → ¬ S g) : RefAt w' base R T most s D :=
  ⟨h.nums, (t.block R h.lt hR).trans h.row, h.own.keep t hs, h.ne⟩
theorem RefAt.new (h : RefAt w base R T most s D) (b : Below w.heap.size w w') : RefAt w' base R T most s D :=
  h.kept (Turns.of_below (S := fun _ => False) b) (fun e => e) (fun _ _ e => e)
theorem rtick_any (h : RefAt w base R T most s D) (n : Nat) (hn : n ≤ 18446744073709551615) : Calls Tryz.prog 107 #[Pt R, .int .u64 n] w fun e w' => e = .returned (.tuple #[]) ∧ RefAt w' base R (sat T n) most s D ∧ Turns (fun k => k = R) w w' := by
  have c0 : w.cell? ⟨R, 0, none⟩ = some (.int .u64 T) := cell_row h.row 0
  have f0 : w.frozen? ⟨R, 0, none⟩ = false := froz_row h.row 0
  have hq := fun W => plus_any T n h.nums.t hn W
  have hN := h.nums.tick (n := n)
  have HQ := Lib.hid hq
  have H := Lib.hid h
  have HN := Lib.hid hN
  clear hq hn h hN
  generalize sat T n = x at *
  go_enter Tryz.func107, Tryz.ntmps107
  go_wp2_with (first
    | (go_at_call 124; refine (HQ.out _).mono ?_; rintro e w' ⟨rfl, rfl⟩))
  go_end0
  have t : Turns (fun k => k = R) w (w.setCell ⟨R, 0, none⟩ (.int .u64 x)) := (Turns.refl _ w).setCell _ _ rfl
  exact ⟨rfl, ⟨HN.out, row_set H.out.row 0 _, H.out.own.keep t (fun g hg e => H.out.ne (by rw [hg, e])), H.out.ne⟩, t⟩
theorem rdraw_none (h : RefAt w base R T most s []) : Calls Tryz.prog 11 #[Pt R] w fun e w' => e = .returned (.int .u64 0) ∧ w = w' := by
  have c0 : w.cell? ⟨R, 1, none⟩ = some s := cell_row h.row 1
  obtain ⟨A, cap, rfl, _⟩ := h.own
  simp only [List.length_nil] at c0
  clear h
  go_enter Tryz.func11, Tryz.ntmps11
  go_wp2
  go_ret
  exact ⟨rfl, rfl⟩
/-- What the document's clock is behind a call that turned it. -/
def RLeaves (w w' : World) (base R T most : Nat) (s : Value) (D : List Nat) : Prop := ∃ s', RefAt w' base R T most s' D ∧ (∀ g, s'.ownBlock = some g → s.ownBlock = some g ∨ w.heap.size ≤ g) ∧ Turns (fun k => k = R) w w'
set_option maxHeartbeats 1000000 in
set_option maxRecDepth 100000 in
theorem rdraw_some {d : Nat} (h : RefAt w base R T most s (d :: D)) : Calls Tryz.prog 11 #[Pt R] w fun e w' => e = .returned (.int .u64 (brt d most : Nat)) ∧ RLeaves w w' base R T most s D := by
  have c2 : w.cell? ⟨R, 1, none⟩ = some s := cell_row h.row 1
  have c1 : w.cell? ⟨R, 2, none⟩ = some (.int .u64 most) := cell_row h.row 2
  have f2 : w.frozen? ⟨R, 1, none⟩ = false := froz_row h.row 1
  obtain ⟨g, o, cap, rfl, cg, hc1, hc2, ht⟩ := h.own.tail
  unfold uv at cg
  have hd := h.nums.all d (by simp)
  have hmo := h.nums.m
  have hlen := h.nums.len
  simp only [List.length_cons] at hlen
  unfold maxLen at hc2
  have hc3 : cap ≤ 9223372036854775807 := by omega
  clear hc2
  have t0 : ((D.length : Int) + 1 == 0) = false := by rw [beq_eq_false_iff_ne]; omega
  have H := Lib.hid h; have HT := Lib.hid ht
  clear h ht
  have hfin : ∀ o', Row w base (.slice (some ⟨g, o', none⟩) D.length (cap - 1)) D → RLeaves w (w.setCell ⟨R, 1, none⟩ (.slice (some ⟨g, o', none⟩) D.length (cap - 1))) base R T most (.slice (some ⟨g, o, none⟩) (D.length + 1) cap) D := fun o' hr => by
    have t : Turns (fun k => k = R) w (w.setCell ⟨R, 1, none⟩ (.slice (some ⟨g, o', none⟩) D.length (cap - 1))) := (Turns.refl _ w).setCell _ _ rfl
    have hne : g ≠ R := fun e => H.out.ne (by rw [← e]; rfl)
    refine ⟨_, ⟨⟨H.out.nums.t, H.out.nums.m, by omega, fun x hx => H.out.nums.all x (by simp [hx])⟩, row_set H.out.row 1 _, hr.keep t ?_, ?_⟩, fun g' hg => .inl hg, t⟩
    · intro g' hg e
      have : g = g' := by simpa [Value.ownBlock] using hg
      exact hne (this.trans e)
    · intro e
      exact hne (by simpa [Value.ownBlock] using e)
  have HF := Lib.hid hfin
  clear hfin
  by_cases hmx : most = 18446744073709551615
  · have hbx : brt d most = d := brt_same (by omega)
    rw [hbx]
    have t1 : decide ((most : Int) < 18446744073709551615) = false := by simp; omega
    have TT := Lib.hid t1
    clear hbx hd hmo t1
    by_cases hcap : cap = 1
    · subst hcap
      rw [if_pos rfl] at HT
      obtain rfl : D = [] := List.eq_nil_of_length_eq_zero (by omega)
      clear hmx
      go_enter Tryz.func11, Tryz.ntmps11
      go_upto_region 5 with (fail)
      have t1 := TT.out
      go_wp2_with fail
      go_ret
      exact ⟨rfl, HF.out _ HT.out⟩
    · rw [if_neg hcap] at HT
      clear hmx
      go_enter Tryz.func11, Tryz.ntmps11
      go_upto_region 5 with (fail)
      have t1 := TT.out
      go_wp2_with fail
      go_ret
      exact ⟨rfl, HF.out _ HT.out⟩
  · have hrem : (d : Int) % ((most : Int) + 1) = ((brt d most : Nat) : Int) := by unfold brt; rw [Int.natCast_emod]; rfl
    have t1 : decide ((most : Int) < 18446744073709551615) = true := by simp; omega
    have t2 : ((most : Int) + 1 == 0) = false := by rw [beq_eq_false_iff_ne]; omega
    have hb : (most : Int) + 1 ≤ 18446744073709551615 := by omega
    have TT := Lib.hid t1; have T2 := Lib.hid t2; have HB := Lib.hid hb
    clear hd hmo t1 t2 hb
    generalize brt d most = x at *
    have HREM := Lib.hid hrem
    clear hrem
    by_cases hcap : cap = 1
    · subst hcap
      rw [if_pos rfl] at HT
      obtain rfl : D = [] := List.eq_nil_of_length_eq_zero (by omega)
      clear hmx
      go_enter Tryz.func11, Tryz.ntmps11
      go_upto_region 5 with (fail)
      have t1 := TT.out; have t2 := T2.out; have hb := HB.out
      go_wp2_with fail
      go_ret
      exact ⟨ret_int HREM.out, HF.out _ HT.out⟩
    · rw [if_neg hcap] at HT
      clear hmx
      go_enter Tryz.func11, Tryz.ntmps11
      go_upto_region 5 with (fail)
      have t1 := TT.out; have t2 := T2.out; have hb := HB.out
      go_wp2_with fail
      go_ret
      exact ⟨ret_int HREM.out, HF.out _ HT.out⟩
end
end Go.Proofs.YtdfnocopakbhoaaGreatDoor.S3
namespace Go.Proofs.YtdfnocopakbhoaaGreatDoor.S3
open Go.Proofs.YtdfnocopakbhoaaGreatDoor
open Go.RowKit

theorem rleaves_more {w w3 w4 : World} {base R T most : Nat} {s s3 s4 : Value} {D F : List Nat} (h : RefAt w base R T most s D) (hN : Nums T most F) (ht3 : Turns (fun k => (Value.slice none 0 0).ownBlock = some k) w.drew w3) (ho3 : s3.ownBlock = (Value.slice none 0 0).ownBlock ∨ s3.ownBlock = some w.drew.heap.size)
    (hr4 : Row w4 base s4 F) (ht4 : Turns (fun k => s3.ownBlock = some k) w3 w4) (ho4 : s4.ownBlock = s3.ownBlock ∨ s4.ownBlock = some w3.heap.size) :
    RLeaves w (w4.setCell ⟨R, 1, none⟩ s4) base R T most s F := by
  have hz : w.drew.heap.size = w.heap.size := rfl
  have h3 : ∀ g, s3.ownBlock = some g → w.heap.size ≤ g := fun g e => by
    rcases ho3 with e' | e'
    · rw [e'] at e; simp [Value.ownBlock] at e
    · rw [e'] at e; injection e with e; omega
  have h4 : ∀ g, s4.ownBlock = some g → w.heap.size ≤ g := fun g e => by
    rcases ho4 with e' | e'
    · exact h3 g (e' ▸ e)
    · rw [e'] at e; injection e with e; have := ht3.size; omega
  have t3 : Turns (fun _ => False) w w3 := ⟨ht3.os, ht3.tape, ht3.output, ht3.size, fun k hk _ => ht3.block k hk (by simp [Value.ownBlock])⟩
  have t4 : Turns (fun _ => False) w w4 := t3.trans ht4 (fun k hk e => by have := h3 k e; omega)
  have t1 : Turns (fun k => k = R) w4 (w4.setCell ⟨R, 1, none⟩ s4) := (Turns.refl _ _).setCell _ _ rfl
  have hne4 : s4.ownBlock ≠ some R := fun e => by have := h4 R e; have := h.lt; omega
  refine ⟨s4, ⟨hN, ?_, hr4.keep t1 (fun g hg e => hne4 (by rw [hg, e])), hne4⟩, fun g hg => .inr (h4 g hg), (t4.mono (fun _ _ e => e.elim)).trans t1 (fun k _ e => e)⟩
  exact row_set ((t4.block R h.lt (fun e => e)).trans h.row) 1 _
theorem own_not {w : World} {s3 : Value} {R : Nat} (ho3 : s3.ownBlock = (Value.slice none 0 0).ownBlock ∨ s3.ownBlock = some w.drew.heap.size) (h : R < w.heap.size) : ¬ s3.ownBlock = some R := fun e => by
  have hz : w.drew.heap.size = w.heap.size := rfl
  rcases ho3 with e' | e'
  · rw [e'] at e; simp [Value.ownBlock] at e
  · rw [e'] at e; injection e with e; omega
attribute [local go_sem ↓] Go.wp_at_zero Go.wp_at_succ
set_option maxHeartbeats 4000000 in
set_option maxRecDepth 100000 in
theorem rmore_any {w : World} {base R T most : Nat} {s : Value} {D : List Nat} (h : RefAt w base R T most s D) (hbase : base ≤ w.heap.size) {b2 : Nat} {A : Option Addr} {E : List Nat} (c : Nat) (hn : E.length ≤ c) (hc : c ≤ 9223372036854775807) (hr : Rd w b2 A E) (hb2 : b2 ≤ w.heap.size) (hE : ∀ d ∈ E, d ≤ 18446744073709551615) :
    Calls Tryz.prog 88 #[Pt R, .slice A E.length c] w fun e w' => e = .returned (.tuple #[]) ∧ RLeaves w w' base R T most s (D ++ E.take (65536 - D.length)) := by
  have c2 : w.cell? ⟨R, 1, none⟩ = some s := cell_row h.row 1
  have f2 : w.frozen? ⟨R, 1, none⟩ = false := froz_row h.row 1
  have hlen := h.nums.len
  have hlt := h.lt
  obtain ⟨K, hK⟩ : ∃ K, K = (E.take (65536 - D.length)).length := ⟨_, rfl⟩
  have hKE : K = min E.length (65536 - D.length) := by rw [hK, List.length_take, Nat.min_comm]
  have hKc : K ≤ c := by omega
  have hl2 : D.length + (E.take (65536 - D.length)).length ≤ 1000000 := by rw [← hK]; omega
  have hl1 : ([] : List Nat).length + D.length ≤ 1000000 := by simp; omega
  have hrd := hr.take (65536 - D.length)
  have hN := h.nums.more hE
  obtain ⟨F, hF⟩ : ∃ F, F = D ++ E.take (65536 - D.length) := ⟨_, rfl⟩
  rw [← hF] at hN ⊢
  have HF := Lib.hid hF
  clear hF
  have hfin := fun w3 w4 s3 s4 => rleaves_more (w3 := w3) (w4 := w4) (s3 := s3) (s4 := s4) h hN
  obtain ⟨A0, cap, hs⟩ := h.own.shape
  subst hs
  have hrow := h.own.rd
  have HDD := Lib.hid (rfl : D.length = D.length)
  have HFIN := Lib.hid hfin; have HK := Lib.hid hK; have HKE := Lib.hid hKE; have HL2 := Lib.hid hl2; have HL1 := Lib.hid hl1; have HRD := Lib.hid hrd; have HROW := Lib.hid hrow; have HBS := Lib.hid hbase; have HB2 := Lib.hid hb2
  have hwr : IntKind.i64.wrap (65536 - (D.length : Int)) = 65536 - (D.length : Int) := by rw [IntKind.wrap_i64]; omega
  clear hfin hK hKE hl2 hl1 hrd hN hrow hbase hb2 h hr hE
  go_enter Tryz.func88, Tryz.ntmps88
  go_upto_region 0 with (fail)
  go_cut [4] from 5 to 13 (fun s wx => s = .int .i64 (K : Nat) ∧ w = wx)
  case first =>
    by_cases hle : E.length ≤ 65536 - D.length
    · go_wp2_with fail
      go_meet
      refine ⟨?_, rfl⟩
      have := HKE.out
      show Value.int _ _ = _
      congr 1
      omega
    · go_wp2_with fail
      go_meet
      refine ⟨?_, rfl⟩
      have := HKE.out
      show Value.int _ _ = _
      congr 1
      omega
  case rest =>
    obtain ⟨rfl, rfl⟩ := hcut
    have hk0 : (0 : Int) ≤ (K : Int) := by omega
    have hkc : (K : Int) ≤ (c : Int) := by omega
    go_upto_region 1 with (fail)
    go_region_law (first
      | ((refine step_append_row (base := base) (v := .slice none 0 0) (D := []) rfl _ _ rfl (by rfl) (row_nil _ _) HBS.out _ (by rfl) HDD.out HROW.out.drew HL1.out ?_; intro v3 w3 hr3 ht3 ho3; rw [List.nil_append] at hr3; obtain ⟨A3, cap3, hv3⟩ := hr3.shape; subst hv3; (have c3 : w3.cell? ⟨R, 1, none⟩ = some (.slice A0 D.length cap) := (ht3.cell hlt (by simp [Value.ownBlock])).trans c2); (have f3 : w3.frozen? ⟨R, 1, none⟩ = false := (ht3.frozen hlt (by simp [Value.ownBlock])).trans f2)))
      | ((refine step_append_row (base := base) (v := .slice A3 D.length cap3) (D := D) rfl _ _ rfl (by rfl) hr3 (Nat.le_trans HBS.out ht3.size) _ (by rfl) HK.out (HRD.out.drew.kept ht3 HB2.out (fun k _ => by simp [Value.ownBlock])) HL2.out ?_; intro v4 w4 hr4 ht4 ho4; rw [← HF.out] at hr4; obtain ⟨A4, cap4, hv4⟩ := hr4.shape; subst hv4; (have hn3 := own_not ho3 hlt); (have hl3 := Nat.lt_of_lt_of_le hlt ht3.size); (have c4 : w4.cell? ⟨R, 1, none⟩ = some (.slice A0 D.length cap) := (ht4.cell hl3 hn3).trans c3); (have f4 : w4.frozen? ⟨R, 1, none⟩ = false := (ht4.frozen hl3 hn3).trans f3))))
    all_goals
      go_end0
      exact ⟨rfl, HFIN.out _ _ _ _ ht3 ho3 hr4 ht4 ho4⟩
def RMade (w : World) (T most : Nat) (D : List Nat) (e : Ending) (w' : World) : Prop := ∃ R s, e = .returned (Pt R) ∧ w.heap.size ≤ R ∧ RefAt w' w.heap.size R T most s D ∧ Below w.heap.size w w'
theorem rmade_new {w w' : World} {most : Nat} {F : List Nat} {s : Value} (l : RLeaves (w.alloc (.cells #[.int .u64 0, .slice none 0 0, .int .u64 most] 126)) w' w.heap.size w.heap.size 0 most s F) : RMade w 0 most F (.returned (Pt w.heap.size)) w' := by
  obtain ⟨s', h, _, t⟩ := l
  exact ⟨_, s', rfl, Nat.le_refl _, h, ((Below.refl _ _).alloc (Nat.le_refl _) _).trans (t.below (by simp) (fun k hk e => by omega))⟩
set_option maxHeartbeats 1000000 in
theorem rnew_any {w : World} {b2 : Nat} {A : Option Addr} {D : List Nat} (c most : Nat) (hn : D.length ≤ c) (hc : c ≤ 9223372036854775807) (hm : most ≤ 18446744073709551615) (hr : Rd w b2 A D) (hb2 : b2 ≤ w.heap.size) (hD : ∀ d ∈ D, d ≤ 18446744073709551615) :
    Calls Tryz.prog 40 #[.slice A D.length c, .int .u64 most] w (RMade w 0 most (D.take 65536)) := by
  have ba : Below w.heap.size w (w.alloc (.cells #[.int .u64 0, .slice none 0 0, .int .u64 most] 126)) := (Below.refl _ _).alloc (Nat.le_refl _) _
  have r0 : RefAt (w.alloc (.cells #[.int .u64 0, .slice none 0 0, .int .u64 most] 126)) w.heap.size w.heap.size 0 most (.slice none 0 0) [] :=
    ⟨⟨by omega, hm, by simp, by simp⟩, heap_alloc_new w _, row_nil _ _, by simp [Value.ownBlock]⟩
  have hmo := rmore_any r0 (by simp) c hn hc (hr.below ba hb2) (Nat.le_trans hb2 ba.size) hD
  simp only [List.nil_append, List.length_nil, Nat.sub_zero] at hmo
  have hfin := fun w' s => rmade_new (w := w) (w' := w') (most := most) (F := D.take 65536) (s := s)
  have HMO := Lib.hid hmo; have HFIN := Lib.hid hfin
  clear hmo hfin ba r0 hr hD
  generalize D.take 65536 = F at *
  go_enter Tryz.func40, Tryz.ntmps40
  go_wp2_with (first
    | (go_at_call 88; refine HMO.out.mono ?_; rintro e w1 ⟨rfl, hl⟩))
  go_ret
  exact HFIN.out _ _ hl
end Go.Proofs.YtdfnocopakbhoaaGreatDoor.S3
namespace Go.Proofs.YtdfnocopakbhoaaGreatDoor.S10
open Go.Proofs.YtdfnocopakbhoaaGreatDoor
open Go.RowKit

/-- Both sets (each at a model of its own), and blocks Z beside them that no call on them turns. -/
structure Sc (W : World) (base : Nat) (own ownR : Nat → Option Role) (s r : Value) (n : Nat) (M R : Int → List Bk) (Z : Nat → Prop) : Prop where
  st : St W base own s n M
  rt : Rt W base ownR r R
  dj : ∀ g, Mine own g → ¬ Mine ownR g
  cl : ∀ g, Z g → g < W.heap.size ∧ ¬ Mine own g ∧ ¬ Mine ownR g
section
variable {W w' : World} {base : Nat} {own ownR own' : Nat → Option Role} {s r : Value} {n n' : Nat} {M M' R R' : Int → List Bk} {Z : Nat → Prop}
theorem Sc.turn (h : Sc W base own ownR s r n M R Z) {S : Nat → Prop} (t : Turns S W w') (h1 : ∀ g, Mine own g → ¬ S g) (h2 : ∀ g, Mine ownR g → ¬ S g) : Sc w' base own ownR s r n M R Z :=
  ⟨h.st.keep t h1, h.rt.keep t h2, h.dj, fun g hz => ⟨Nat.lt_of_lt_of_le (h.cl g hz).1 t.size, (h.cl g hz).2⟩⟩
theorem Sc.new (h : Sc W base own ownR s r n M R Z) (hb : Below W.heap.size W w') : Sc w' base own ownR s r n M R Z :=
  h.turn (Turns.of_below (S := fun _ => False) hb) (fun _ _ e => e) (fun _ _ e => e)
theorem Sc.drew (h : Sc W base own ownR s r n M R Z) : Sc W.drew base own ownR s r n M R Z := h.turn (Turns.refl (fun _ => False) W).drew (fun _ _ e => e) (fun _ _ e => e)
/-- A call on the first one. -/
theorem Sc.one (h : Sc W base own ownR s r n M R Z) (hs : St w' base own' s n' M') (t : Turns (Mine own) W w') (f : Fresh own own' W) : Sc w' base own' ownR s r n' M' R Z ∧ Turns (fun g => ¬ Z g) W w' ∧ Below base W w' := by
  have hr : ∀ g, Mine ownR g → g < W.heap.size := fun g hg => (h.rt.fp hg).2
  refine ⟨⟨hs, h.rt.keep t (fun g hg hs => h.dj g hs hg), fun g hg hg' => ?_, fun g hz => ?_⟩, t.mono (fun g _ hg hz => (h.cl g hz).2.1 hg), t.below h.st.le (fun k hk hm => by have := (h.st.fp hm).1; omega)⟩
  · obtain ⟨r1, e⟩ := hg
    rcases f g r1 e with h' | h'
    · exact h.dj g h' hg'
    · have := hr g hg'; omega
  · obtain ⟨h1, h2, h3⟩ := h.cl g hz
    refine ⟨Nat.lt_of_lt_of_le h1 t.size, fun ⟨r1, e⟩ => ?_, h3⟩
    rcases f g r1 e with h' | h'
    · exact h2 h'
    · omega
/-- A call on the document's. -/
theorem Sc.two (h : Sc W base own ownR s r n M R Z) (hr : Rt w' base own' r R') (t : Turns (Mine ownR) W w') (f : Fresh ownR own' W) : Sc w' base own own' s r n M R' Z ∧ Turns (fun g => ¬ Z g) W w' ∧ Below base W w' := by
  have hs : ∀ g, Mine own g → g < W.heap.size := fun g hg => (h.st.fp hg).2
  refine ⟨⟨h.st.keep t (fun g hg hr => h.dj g hg hr), hr, fun g hg hg' => ?_, fun g hz => ?_⟩, t.mono (fun g _ hg hz => (h.cl g hz).2.2 hg), t.below h.st.le (fun k hk hm => by have := (h.rt.fp hm).1; omega)⟩
  · obtain ⟨r1, e⟩ := hg'
    rcases f g r1 e with h' | h'
    · exact h.dj g hg h'
    · have := hs g hg; omega
  · obtain ⟨h1, h2, h3⟩ := h.cl g hz
    refine ⟨Nat.lt_of_lt_of_le h1 t.size, h2, fun ⟨r1, e⟩ => ?_⟩
    rcases f g r1 e with h' | h'
    · exact h3 h'
    · omega
/-- Blocks that are new stand beside, too. -/
theorem Sc.add (h : Sc W base own ownR s r n M R Z) (hb : Below W.heap.size W w') {Y : Nat → Prop} (hy : ∀ g, Y g → W.heap.size ≤ g ∧ g < w'.heap.size) : Sc w' base own ownR s r n M R (fun g => Z g ∨ Y g) := by
  have h1 := h.new hb
  refine ⟨h1.st, h1.rt, h.dj, fun g hg => ?_⟩
  rcases hg with hz | hy'
  · exact h1.cl g hz
  · have := hy g hy'
    refine ⟨this.2, fun hm => ?_, fun hm => ?_⟩
    · have := (h.st.fp hm).2; omega
    · have := (h.rt.fp hm).2; omega
theorem Sc.sub (h : Sc W base own ownR s r n M R Z) {Y : Nat → Prop} (hy : ∀ g, Y g → Z g) : Sc W base own ownR s r n M R Y := ⟨h.st, h.rt, h.dj, fun g hg => h.cl g (hy g hg)⟩
/-- What stands beside is kept. -/
theorem Sc.keepC (h : Sc W base own ownR s r n M R Z) (t : Turns (fun g => ¬ Z g) W w') {g o : Nat} (hz : Z g) {v : Value} (hv : W.cell? ⟨g, o, none⟩ = some v) : w'.cell? ⟨g, o, none⟩ = some v :=
  (t.cell (h.cl g hz).1 (fun hn => hn hz)).trans hv
end
end Go.Proofs.YtdfnocopakbhoaaGreatDoor.S10
namespace Go.Proofs.YtdfnocopakbhoaaGreatDoor.S11
open Go.Proofs.YtdfnocopakbhoaaGreatDoor
open Go.RowKit

theorem keep7 {w w' : World} {K : IntKind} {base g o : Nat} {d : Nt} (hb : Below base w w') (hg : g < base) (h : w.cell? ⟨g, o, none⟩ = some (.int .i64 d.s) ∧ w.cell? ⟨g, o + 1, none⟩ = some (.int .i64 d.t) ∧ w.cell? ⟨g, o + 2, none⟩ = some (.int K (d.k : Int)) ∧ w.cell? ⟨g, o + 3, none⟩ = some (.int .u32 d.a) ∧ w.cell? ⟨g, o + 4, none⟩ = some (.int .i64 d.o) ∧ w.cell? ⟨g, o + 5, none⟩ = some (.int .u32 d.b) ∧ w.cell? ⟨g, o + 6, none⟩ = some (.int .u64 d.v)) : w'.cell? ⟨g, o, none⟩ = some (.int .i64 d.s) ∧ w'.cell? ⟨g, o + 1, none⟩ = some (.int .i64 d.t) ∧ w'.cell? ⟨g, o + 2, none⟩ = some (.int K (d.k : Int)) ∧ w'.cell? ⟨g, o + 3, none⟩ = some (.int .u32 d.a) ∧ w'.cell? ⟨g, o + 4, none⟩ = some (.int .i64 d.o) ∧ w'.cell? ⟨g, o + 5, none⟩ = some (.int .u32 d.b) ∧ w'.cell? ⟨g, o + 6, none⟩ = some (.int .u64 d.v) :=
  ⟨(hb.cell (by exact hg)).trans h.1, (hb.cell (by exact hg)).trans h.2.1, (hb.cell (by exact hg)).trans h.2.2.1, (hb.cell (by exact hg)).trans h.2.2.2.1, (hb.cell (by exact hg)).trans h.2.2.2.2.1, (hb.cell (by exact hg)).trans h.2.2.2.2.2.1, (hb.cell (by exact hg)).trans h.2.2.2.2.2.2⟩
theorem NtAt.all {w : World} {K : IntKind} {g o : Nat} {d : Nt} (h : NtAt w K g o d) : w.cell? ⟨g, o, none⟩ = some (.int .i64 d.s) ∧ w.cell? ⟨g, o + 1, none⟩ = some (.int .i64 d.t) ∧ w.cell? ⟨g, o + 2, none⟩ = some (.int K (d.k : Int)) ∧ w.cell? ⟨g, o + 3, none⟩ = some (.int .u32 d.a) ∧ w.cell? ⟨g, o + 4, none⟩ = some (.int .i64 d.o) ∧ w.cell? ⟨g, o + 5, none⟩ = some (.int .u32 d.b) ∧ w.cell? ⟨g, o + 6, none⟩ = some (.int .u64 d.v) := ⟨h.c0, h.c1, h.c2, h.c3, h.c4, h.c5, h.c6⟩
set_option maxHeartbeats 2000000 in
set_option maxRecDepth 100000 in
theorem same_any {w : World} {b1 b2 : Nat} {A B : Option Addr} {D : List Nt} (c c' : Nat) (hr1 : Rd w b1 A (flat .u8 D)) (hr2 : Rd w b2 B (flat .i64 D)) (hb1 : b1 ≤ w.heap.size) (hb2 : b2 ≤ w.heap.size) (hlen : D.length ≤ 1000000) (hks : ∀ d ∈ D, d.k < 256) :
    Calls Tryz.prog 44 #[.slice A D.length c, .slice B D.length c'] w fun e w' => e = .returned (.bool true) ∧ Below w.heap.size w w' := by
  have H1 := Lib.hid hr1; have H2 := Lib.hid hr2; have HS1 := Lib.hid hb1; have HS2 := Lib.hid hb2; have HKS := Lib.hid hks
  clear hr1 hr2 hb1 hb2 hks
  obtain ⟨n, hn⟩ : ∃ n, n = D.length := ⟨_, rfl⟩
  rw [← hn]
  have HN := Lib.hid hn
  have hn6 : n ≤ 1000000 := by omega
  clear hn hlen
  go_enter Tryz.func44, Tryz.ntmps44
  go_wp2_with fail
  go_loopg [5] n (fun q s5 wx => ∃ k : Nat, k ≤ n ∧ q = n - k ∧ s5 = .int .i64 (k : Int) ∧ Below w.heap.size w wx)
  case atStart => exact ⟨0, by omega, rfl, rfl, Below.refl _ _⟩
  case round =>
    obtain ⟨k, hk, rfl, rfl, hb⟩ := hrel
    have HB := Lib.hid hb
    clear hb
    by_cases hkn : k < n
    · obtain ⟨g1, o1, rfl, hg1, hN1⟩ := (H1.out.below HB.out HS1.out).note (i := k) (by have := HN.out; omega)
      obtain ⟨g2, o2, rfl, hg2, hN2⟩ := (H2.out.below HB.out HS2.out).note (i := k) (by have := HN.out; omega)
      have hl1 : g1 < wr.heap.size := by have := HB.out.size; have := HS1.out; omega
      have hl2 : g2 < wr.heap.size := by have := HB.out.size; have := HS2.out; omega
      have hdk : D[k]!.k < 256 := HKS.out _ (by have := HN.out; rw [getElem!_pos D k (by omega)]; exact List.getElem_mem _)
      generalize hd : D[k]! = d at *
      clear hd
      have hne := fun W => neq40 d d W
      simp only [decide_true, Bool.not_true] at hne
      go_upto_region 6 with (fail)
      refine wp_region_held_drew (S := fun w' => (w'.cell? ⟨g1, o1 + k * 7, none⟩ = some (.int .i64 d.s) ∧ w'.cell? ⟨g1, o1 + k * 7 + 1, none⟩ = some (.int .i64 d.t) ∧ w'.cell? ⟨g1, o1 + k * 7 + 2, none⟩ = some (.int .u8 (d.k : Int)) ∧ w'.cell? ⟨g1, o1 + k * 7 + 3, none⟩ = some (.int .u32 d.a) ∧ w'.cell? ⟨g1, o1 + k * 7 + 4, none⟩ = some (.int .i64 d.o) ∧ w'.cell? ⟨g1, o1 + k * 7 + 5, none⟩ = some (.int .u32 d.b) ∧ w'.cell? ⟨g1, o1 + k * 7 + 6, none⟩ = some (.int .u64 d.v)) ∧ (w'.cell? ⟨g2, o2 + k * 7, none⟩ = some (.int .i64 d.s) ∧ w'.cell? ⟨g2, o2 + k * 7 + 1, none⟩ = some (.int .i64 d.t) ∧ w'.cell? ⟨g2, o2 + k * 7 + 2, none⟩ = some (.int .i64 (d.k : Int)) ∧ w'.cell? ⟨g2, o2 + k * 7 + 3, none⟩ = some (.int .u32 d.a) ∧ w'.cell? ⟨g2, o2 + k * 7 + 4, none⟩ = some (.int .i64 d.o) ∧ w'.cell? ⟨g2, o2 + k * 7 + 5, none⟩ = some (.int .u32 d.b) ∧ w'.cell? ⟨g2, o2 + k * 7 + 6, none⟩ = some (.int .u64 d.v)) ∧ Below wr.heap.size wr w') (by kernel_rfl) ?_ (fun hHeld => ?_)
      · exact ⟨hN1.all, hN2.all, (Below.refl _ wr).drew⟩
      refine wpAnyH_take (i := 0) (oi := ({ dst := some 17, op := Op.move (Operand.tmp 0), type := 91, pos := "law.go:60", after := #[], guard := none } : Oper)) (v := ?v0) rfl (by kernel_rfl) (by kernel_rfl) (by kernel_rfl) (fun _ _ _ h => h) (Or.inl ⟨by rfl, fun w hSw => ?hy0⟩) (by assumption) ?r0
      case hy0 => (try dsimp only at hSw); go_simp; (try with_reducible rfl)
      (try simp only [Act.put, List.setIfInBounds_toArray, List.set_cons_zero, List.set_cons_succ])
      refine wpAnyH_take (i := 1) (oi := ({ dst := some 18, op := Op.move (Operand.tmp 5), type := 3, pos := "law.go:60", after := #[], guard := none } : Oper)) (v := ?v1) rfl (by kernel_rfl) (by kernel_rfl) (by kernel_rfl) (fun _ _ _ h => h) (Or.inl ⟨by rfl, fun w hSw => ?hy1⟩) (by assumption) ?r1
      case hy1 => (try dsimp only at hSw); go_simp; (try with_reducible rfl)
      (try simp only [Act.put, List.setIfInBounds_toArray, List.set_cons_zero, List.set_cons_succ])
      refine wpAnyH_take (i := 2) (oi := ({ dst := some 19, op := Op.indexAddr 91 (Operand.tmp 17) (Operand.tmp 18), type := 0, pos := "law.go:60", after := #[{ on := 0, ground := Ground.data }, { on := 1, ground := Ground.data }], guard := none } : Oper)) (v := ?v2) rfl (by kernel_rfl) (by kernel_rfl) (by kernel_rfl) (fun _ _ _ h => h) (Or.inl ⟨by rfl, fun w hSw => ?hy2⟩) (by assumption) ?r2
      case hy2 => (try dsimp only at hSw); go_simp; (try with_reducible rfl)
      (try simp only [Act.put, List.setIfInBounds_toArray, List.set_cons_zero, List.set_cons_succ])
      refine wpAnyH_take (i := 3) (oi := ({ dst := some 20, op := Op.load 94 (Operand.tmp 19), type := 94, pos := "law.go:60", after := #[{ on := 2, ground := Ground.data }], guard := none } : Oper)) (v := ?v3) rfl (by kernel_rfl) (by kernel_rfl) (by kernel_rfl) (fun _ _ _ h => h) (Or.inl ⟨by rfl, fun w hSw => ?hy3⟩) (by assumption) ?r3
      case hy3 => (try dsimp only at hSw); go_simp; (try with_reducible rfl)
      (try simp only [Act.put, List.setIfInBounds_toArray, List.set_cons_zero, List.set_cons_succ])
      refine wpAnyH_take (i := 5) (oi := ({ dst := some 22, op := Op.move (Operand.tmp 1), type := 119, pos := "law.go:60", after := #[], guard := none } : Oper)) (v := ?v5) rfl (by kernel_rfl) (by kernel_rfl) (by kernel_rfl) (fun _ _ _ h => h) (Or.inl ⟨by rfl, fun w hSw => ?hy5⟩) (by assumption) ?r5
      case hy5 => (try dsimp only at hSw); go_simp; (try with_reducible rfl)
      (try simp only [Act.put, List.setIfInBounds_toArray, List.set_cons_zero, List.set_cons_succ])
      refine wpAnyH_take (i := 6) (oi := ({ dst := some 23, op := Op.move (Operand.tmp 5), type := 3, pos := "law.go:60", after := #[], guard := none } : Oper)) (v := ?v6) rfl (by kernel_rfl) (by kernel_rfl) (by kernel_rfl) (fun _ _ _ h => h) (Or.inl ⟨by rfl, fun w hSw => ?hy6⟩) (by assumption) ?r6
      case hy6 => (try dsimp only at hSw); go_simp; (try with_reducible rfl)
      (try simp only [Act.put, List.setIfInBounds_toArray, List.set_cons_zero, List.set_cons_succ])
      refine wpAnyH_take (i := 7) (oi := ({ dst := some 24, op := Op.indexAddr 119 (Operand.tmp 22) (Operand.tmp 23), type := 0, pos := "law.go:60", after := #[{ on := 5, ground := Ground.data }, { on := 6, ground := Ground.data }], guard := none } : Oper)) (v := ?v7) rfl (by kernel_rfl) (by kernel_rfl) (by kernel_rfl) (fun _ _ _ h => h) (Or.inl ⟨by rfl, fun w hSw => ?hy7⟩) (by assumption) ?r7
      case hy7 => (try dsimp only at hSw); go_simp; (try with_reducible rfl)
      (try simp only [Act.put, List.setIfInBounds_toArray, List.set_cons_zero, List.set_cons_succ])
      refine wpAnyH_take (i := 8) (oi := ({ dst := some 25, op := Op.load 213 (Operand.tmp 24), type := 213, pos := "law.go:60", after := #[{ on := 7, ground := Ground.data }], guard := none } : Oper)) (v := ?v8) rfl (by kernel_rfl) (by kernel_rfl) (by kernel_rfl) (fun _ _ _ h => h) (Or.inl ⟨by rfl, fun w hSw => ?hy8⟩) (by assumption) ?r8
      case hy8 => (try dsimp only at hSw); go_simp; (try with_reducible rfl)
      (try simp only [Act.put, List.setIfInBounds_toArray, List.set_cons_zero, List.set_cons_succ])
      refine wpAnyH_ready (rs := [4]) (by kernel_rfl) (by simp) ?_
      refine AllReadyH.cons (o := ({ dst := some 21, op := Op.call { callee := Callee.value (Operand.func 95), args := #[Operand.tmp 20], argTypes := #[94] }, type := 213, pos := "law.go:60", after := #[{ on := 3, ground := Ground.data }], guard := none } : Oper)) rfl (fun Kq hKq => ?_) AllReadyH.nil
      go_simp
      (refine (other_any d hdk _).mono ?_; rintro e w1 ⟨rfl, hb1⟩)
      refine hKq.out _ _ ?_ (fun hHeld => ?_)
      · exact ⟨keep7 hb1 (by have := hHeld.2.2.size; omega) hHeld.1, keep7 hb1 (by have := hHeld.2.2.size; omega) hHeld.2.1, hHeld.2.2.trans (hb1.mono hHeld.2.2.size)⟩
      clear hKq Kq
      (try simp only [Act.put, List.setIfInBounds_toArray, List.set_cons_zero, List.set_cons_succ])
      refine wpAnyH_take (i := 9) (oi := ({ dst := some 26, op := Op.binOp BinOp.neq 213 (Operand.tmp 21) (Operand.tmp 25) 213, type := 4, pos := "law.go:60", after := #[{ on := 4, ground := Ground.data }, { on := 8, ground := Ground.data }], guard := none } : Oper)) (v := ?v9) rfl (by kernel_rfl) (by kernel_rfl) (by kernel_rfl) (fun _ _ _ h => h) (Or.inl ⟨by rfl, fun w hSw => ?hy9⟩) (by assumption) ?r9
      case hy9 => (try dsimp only at hSw); go_simp; (try with_reducible rfl)
      (try simp only [Act.put, List.setIfInBounds_toArray, List.set_cons_zero, List.set_cons_succ])
      refine wpAnyH_done (by kernel_rfl) ?_ _
      have HH := Lib.hid hHeld.2.2
      clear hHeld
      go_wp2_with fail
      go_roundg (n - (k + 1))
      case measure => omega
      case rel => exact ⟨k + 1, by omega, rfl, by go_num, HB.out.trans (HH.out.mono HB.out.size)⟩
    · obtain rfl : k = n := by omega
      go_wp2_with fail
      go_ret
      exact ⟨rfl, HB.out⟩
end Go.Proofs.YtdfnocopakbhoaaGreatDoor.S11
namespace Go.Proofs.YtdfnocopakbhoaaGreatDoor.S12
open Go.Proofs.YtdfnocopakbhoaaGreatDoor Go.Proofs.YtdfnocopakbhoaaGreatDoor.S11
open Go.RowKit

def rcellsP (base R : Nat) (s : Value) (L : S2.LL) (n k a was is : Nat) : Part where
  ok w := S2.RefAt w base R s L n k a was is
  fp k := k = R ∨ s.ownBlock = some k
  lt w h k e := by
    rcases e with rfl | e
    · exact h.lt
    · exact (h.own.lt k e).2
  kept S w w' h t hs := h.kept (S := S) ⟨t.os, t.tape, t.output, t.size, t.block⟩ (hs R (.inl rfl)) (fun g e => hs g (.inr e))
def rclockP (base B T most : Nat) (s : Value) (D : List Nat) : Part where
  ok w := S3.RefAt w base B T most s D
  fp k := k = B ∨ s.ownBlock = some k
  lt w h k e := by
    rcases e with rfl | e
    · exact h.lt
    · exact (h.own.lt k e).2
  kept S w w' h t hs := h.kept (S := S) ⟨t.os, t.tape, t.output, t.size, t.block⟩ (hs B (.inl rfl)) (fun g e => hs g (.inr e))
def rtablesP (base : Nat) (own : Nat → Option S10.Role) (s : Value) (M : Int → List S10.Bk) : Part where
  ok w := S10.Rt w base own s M
  fp k := S10.Mine own k
  lt w h k e := (h.fp e).2
  kept S w w' h t hs := h.keep (S := S) ⟨t.os, t.tape, t.output, t.size, t.block⟩ hs
section
variable {w w' : World} {base b0 i : Nat} {l : List Part}
theorem t_rcells {R : Nat} {s s' : Value} {L L' : S2.LL} {n k a was is n' k' a' was' is' : Nat} (h : Parts w base l) (hi : l[i]? = some (rcellsP b0 R s L n k a was is)) (c : S2.RefAt w' b0 R s' L' n' k' a' was' is') (ho : ∀ g, s'.ownBlock = some g → s.ownBlock = some g ∨ w.heap.size ≤ g) (t : S2.Turns (fun k => k = R ∨ s.ownBlock = some k) w w') :
    Parts w' base (l.set i (rcellsP b0 R s' L' n' k' a' was' is')) ∧ Below base w w' := by
  refine h.turn hi (rcellsP b0 R s' L' n' k' a' was' is') c ⟨t.os, t.tape, t.output, t.size, t.block⟩ (fun k e => ?_)
  rcases e with e | e
  · exact .inl (.inl e)
  · rcases ho k e with e | e
    · exact .inl (.inr e)
    · exact .inr e
theorem t_rclock {B T most T' most' : Nat} {s s' : Value} {D D' : List Nat} (h : Parts w base l) (hi : l[i]? = some (rclockP b0 B T most s D)) (c : S3.RefAt w' b0 B T' most' s' D') (ho : ∀ g, s'.ownBlock = some g → s.ownBlock = some g ∨ w.heap.size ≤ g) (t : S3.Turns (fun k => k = B ∨ s.ownBlock = some k) w w') :
    Parts w' base (l.set i (rclockP b0 B T' most' s' D')) ∧ Below base w w' := by
  refine h.turn hi (rclockP b0 B T' most' s' D') c ⟨t.os, t.tape, t.output, t.size, t.block⟩ (fun k e => ?_)
  rcases e with e | e
  · exact .inl (.inl e)
  · rcases ho k e with e | e
    · exact .inl (.inr e)
    · exact .inr e
theorem t_rtables {own own' : Nat → Option S10.Role} {s : Value} {M M' : Int → List S10.Bk} (h : Parts w base l) (hi : l[i]? = some (rtablesP b0 own s M)) (c : S10.Rt w' b0 own' s M') (t : S10.Turns (S10.Mine own) w w') (f : S10.Fresh own own' w) :
    Parts w' base (l.set i (rtablesP b0 own' s M')) ∧ Below base w w' :=
  h.turn hi (rtablesP b0 own' s M') c ⟨t.os, t.tape, t.output, t.size, t.block⟩ (fun k ⟨r, e⟩ => f k r e)
end
end Go.Proofs.YtdfnocopakbhoaaGreatDoor.S12
namespace Go.Proofs.YtdfnocopakbhoaaGreatDoor.S12
open Go.Proofs.YtdfnocopakbhoaaGreatDoor

section
variable {P : Program} {ops : Array Oper} {Q : Exit → Act → World → Prop} {md : Region.Mode} {S : World → Prop}
/-- How many have not come up yet. -/
def openN (L : Array Bool) : Nat := L.toList.count false
theorem openN_set {L : Array Bool} {i : Nat} (h : L[i]? = some false) : openN (L.setIfInBounds i true) + 1 = openN L := by
  obtain ⟨l⟩ := L
  simp only [openN, List.setIfInBounds_toArray] at *
  simp only [List.getElem?_toArray] at h
  induction l generalizing i with
  | nil => simp at h
  | cons x r ih =>
    cases i with
    | zero => simp at h; subst h; simp
    | succ i =>
      simp at h
      have := ih (i := i) h
      cases x <;> simp <;> omega
theorem ready_open {L : Array Bool} {i : Nat} (h : i ∈ Region.ready md ops L) : L[i]? = some false := by
  have h0 := (mem_ready.1 h).1
  rw [Array.getD_eq_getD_getElem?] at h0
  cases e : L[i]? with
  | none => rw [e] at h0; cases h0
  | some x => rw [e] at h0; simp at h0; rw [h0]
theorem ready_full {L : Array Bool} (h : openN L = 0) : Region.ready md ops L = [] := by
  cases e : Region.ready md ops L with
  | nil => rfl
  | cons i r =>
    have hi : i ∈ Region.ready md ops L := by rw [e]; simp
    have := openN_set (ready_open hi)
    omega
/-- Whatever comes up keeps I; when all have come up I gives Q: the region is done, whatever the order. -/
theorem wpAnyH_inv (I : Array Bool → Act → World → Prop)
    (step : ∀ L a w, I L a w → ∀ i ∈ Region.ready md ops L, wpOp P ops Q i (fun a' w' => S w' ∧ I (L.setIfInBounds i true) a' w') a w)
    (done : ∀ L a w, I L a w → Region.ready md ops L = [] → Q .normal a w) :
    ∀ (fuel : Nat) (L : Array Bool) (a : Act) (w : World), openN L ≤ fuel → I L a w → wpAnyH P md ops Q S fuel L a w
  | 0, L, a, w, hf, h => ⟨ready_full (by omega), done L a w h (ready_full (by omega))⟩
  | fuel + 1, L, a, w, hf, h => ⟨fun h0 => done L a w h h0, fun i hi => wpOp_mono (fun a' w' h' => ⟨h'.1, wpAnyH_inv I step done fuel _ a' w' (by have := openN_set (ready_open hi); omega) h'.2⟩) (step L a w h i hi)⟩
/-- The same, with a way out: where the rest goes in one order it is walked on by hand. -/
theorem wpAnyH_inv2 (I : Array Bool → Act → World → Prop)
    (step : ∀ fuel L a w, I L a w → openN L ≤ fuel → wpAnyH P md ops Q S fuel L a w ∨ (Region.ready md ops L ≠ [] ∧ ∀ i ∈ Region.ready md ops L, wpOp P ops Q i (fun a' w' => S w' ∧ I (L.setIfInBounds i true) a' w') a w)) :
    ∀ (fuel : Nat) (L : Array Bool) (a : Act) (w : World), openN L ≤ fuel → I L a w → wpAnyH P md ops Q S fuel L a w
  | 0, L, a, w, hf, h => by
    rcases step 0 L a w h hf with hs | ⟨hne, _⟩
    · exact hs
    · exact absurd (ready_full (by omega)) hne
  | fuel + 1, L, a, w, hf, h => by
    rcases step (fuel + 1) L a w h hf with hs | ⟨hne, hs⟩
    · exact hs
    · exact ⟨fun h0 => absurd h0 hne, fun i hi => wpOp_mono (fun a' w' h' => ⟨h'.1, wpAnyH_inv2 I step fuel _ a' w' (by have := openN_set (ready_open hi); omega) h'.2⟩) (hs i hi)⟩
end
end Go.Proofs.YtdfnocopakbhoaaGreatDoor.S12
namespace Go.Proofs.YtdfnocopakbhoaaGreatDoor.S2
open Go.Proofs.YtdfnocopakbhoaaGreatDoor
open Go.RowKit Go.Maps

def RNew (w : World) (L : LL) (e : Ending) (w' : World) : Prop := ∃ R s, e = .returned (Pt R) ∧ w.heap.size ≤ R ∧ RefAt w' w.heap.size R s L 0 0 0 0 0 ∧ Below w.heap.size w w'
set_option maxHeartbeats 4000000 in
set_option maxRecDepth 100000 in
theorem rnew_any (p : Option Addr) (n c : Nat) (A V : Nat → Nat) (hn : n ≤ 100) (hok : WOk n A V) (w : World) (hin : WIn w w.heap.size p n A V) :
    Calls Tryz.prog 39 #[.slice p n c] w (RNew w (newL A V n)) := by
  have s0 : RefAt (w.alloc (.cells #[.slice none 0 0, .int .i64 0, .int .u8 0, .int .u32 0, .int .u64 0, .int .u64 0] 200)) w.heap.size w.heap.size (.slice none 0 0) [] 0 0 0 0 0 := ⟨good_nil, heap_alloc_new w _, World.ownsRow_nil _ _ _ _, by simp [Value.ownBlock]⟩
  have hb0 : Below w.heap.size w (w.alloc (.cells #[.slice none 0 0, .int .i64 0, .int .u8 0, .int .u32 0, .int .u64 0, .int .u64 0] 200)) := (Below.refl _ _).alloc (Nat.le_refl _) _
  have S0 := Lib.hid s0; have B0 := Lib.hid hb0; have HIN := Lib.hid hin; have HOK := Lib.hid hok
  clear s0 hb0 hin hok
  go_enter Tryz.func39, Tryz.ntmps39
  go_wp2_with fail
  go_loopg [4] n (fun q s4 wx => ∃ (k : Nat) (s : Value) (kd a was is : Nat), k ≤ n ∧ q = n - k ∧ s4 = .int .i64 k ∧ RefAt wx w.heap.size w.heap.size s (newL A V k) k kd a was is ∧ Below w.heap.size w wx)
  case atStart => exact ⟨0, _, 0, 0, 0, 0, by omega, rfl, rfl, S0.out, B0.out⟩
  case round =>
    obtain ⟨k, s, kd, a, was, is, hk, rfl, rfl, hst, hb⟩ := hrel
    have HST := Lib.hid hst; have HB := Lib.hid hb
    clear hst
    by_cases hkn : k < n
    · obtain ⟨lb, lo, rfl, hlb, hc⟩ := HIN.out.below hb (Nat.le_refl _) (by omega)
      obtain ⟨d0, d1⟩ := hc k hkn
      obtain ⟨hA, hV⟩ := HOK.out k hkn
      have hsz := hb.size
      clear hc hb
      have hL : newL A V (k + 1) = putL (newL A V k) (A k) (bring (A k) (V k)) := rfl
      have HL := Lib.hid hL
      have RD := Lib.hid (HST.out.kept (turns_drew (fun _ => False) _) (fun h => h) (fun _ _ h => h))
      have hlbR : lb ≠ w.heap.size := by omega
      have LBR := Lib.hid hlbR
      clear hL hlbR
      go_upto_region 5 with (fail)
      refine wp_region_held_drew (S := fun w' => w'.cell? ⟨lb, lo + k * 2, none⟩ = some (.int .u32 (A k)) ∧ w'.cell? ⟨lb, lo + k * 2 + 1, none⟩ = some (.int .u64 (V k))) (by kernel_rfl) ?_ (fun hHeld => ?_)
      · exact ⟨d0, d1⟩
      refine wpAnyH_take (i := 0) (oi := ({ dst := some 13, op := Op.move (Operand.tmp 3), type := 48, pos := "ref.go:23", after := #[], guard := none } : Oper)) (v := ?vm0) rfl (by kernel_rfl) (by kernel_rfl) (by kernel_rfl) (fun _ _ _ h => h) (Or.inl ⟨by rfl, fun w hSw => ?hym0⟩) (by assumption) ?rm0
      case hym0 => (try dsimp only at hSw); go_simp; (try with_reducible rfl)
      (try simp only [Act.put, List.setIfInBounds_toArray, List.set_cons_zero, List.set_cons_succ])
      refine wpAnyH_take (i := 1) (oi := ({ dst := some 14, op := Op.move (Operand.tmp 0), type := 106, pos := "ref.go:23", after := #[], guard := none } : Oper)) (v := ?vm1) rfl (by kernel_rfl) (by kernel_rfl) (by kernel_rfl) (fun _ _ _ h => h) (Or.inl ⟨by rfl, fun w hSw => ?hym1⟩) (by assumption) ?rm1
      case hym1 => (try dsimp only at hSw); go_simp; (try with_reducible rfl)
      (try simp only [Act.put, List.setIfInBounds_toArray, List.set_cons_zero, List.set_cons_succ])
      refine wpAnyH_take (i := 2) (oi := ({ dst := some 15, op := Op.move (Operand.tmp 4), type := 3, pos := "ref.go:23", after := #[], guard := none } : Oper)) (v := ?vm2) rfl (by kernel_rfl) (by kernel_rfl) (by kernel_rfl) (fun _ _ _ h => h) (Or.inl ⟨by rfl, fun w hSw => ?hym2⟩) (by assumption) ?rm2
      case hym2 => (try dsimp only at hSw); go_simp; (try with_reducible rfl)
      (try simp only [Act.put, List.setIfInBounds_toArray, List.set_cons_zero, List.set_cons_succ])
      refine wpAnyH_take (i := 3) (oi := ({ dst := some 16, op := Op.indexAddr 106 (Operand.tmp 14) (Operand.tmp 15), type := 0, pos := "ref.go:23", after := #[{ on := 1, ground := Ground.data }, { on := 2, ground := Ground.data }], guard := none } : Oper)) (v := ?vm3) rfl (by kernel_rfl) (by kernel_rfl) (by kernel_rfl) (fun _ _ _ h => h) (Or.inl ⟨by rfl, fun w hSw => ?hym3⟩) (by assumption) ?rm3
      case hym3 => (try dsimp only at hSw); go_simp; (try with_reducible rfl)
      (try simp only [Act.put, List.setIfInBounds_toArray, List.set_cons_zero, List.set_cons_succ])
      refine wpAnyH_take (i := 4) (oi := ({ dst := some 17, op := Op.fieldAddr 105 (Operand.tmp 16) 0, type := 0, pos := "ref.go:23", after := #[{ on := 3, ground := Ground.data }], guard := none } : Oper)) (v := ?vm4) rfl (by kernel_rfl) (by kernel_rfl) (by kernel_rfl) (fun _ _ _ h => h) (Or.inl ⟨by rfl, fun w hSw => ?hym4⟩) (by assumption) ?rm4
      case hym4 => (try dsimp only at hSw); go_simp; (try with_reducible rfl)
      (try simp only [Act.put, List.setIfInBounds_toArray, List.set_cons_zero, List.set_cons_succ])
      refine wpAnyH_take (i := 5) (oi := ({ dst := some 18, op := Op.load 65 (Operand.tmp 17), type := 65, pos := "ref.go:23", after := #[{ on := 4, ground := Ground.data }], guard := none } : Oper)) (v := ?vm5) rfl (by kernel_rfl) (by kernel_rfl) (by kernel_rfl) (fun _ _ _ h => h) (Or.inl ⟨by rfl, fun w hSw => ?hym5⟩) (by assumption) ?rm5
      case hym5 => (try dsimp only at hSw); go_simp; (try with_reducible rfl)
      (try simp only [Act.put, List.setIfInBounds_toArray, List.set_cons_zero, List.set_cons_succ])
      refine wpAnyH_take (i := 6) (oi := ({ dst := some 19, op := Op.move (Operand.tmp 0), type := 106, pos := "ref.go:23", after := #[], guard := none } : Oper)) (v := ?vm6) rfl (by kernel_rfl) (by kernel_rfl) (by kernel_rfl) (fun _ _ _ h => h) (Or.inl ⟨by rfl, fun w hSw => ?hym6⟩) (by assumption) ?rm6
      case hym6 => (try dsimp only at hSw); go_simp; (try with_reducible rfl)
      (try simp only [Act.put, List.setIfInBounds_toArray, List.set_cons_zero, List.set_cons_succ])
      refine wpAnyH_take (i := 7) (oi := ({ dst := some 20, op := Op.move (Operand.tmp 4), type := 3, pos := "ref.go:23", after := #[], guard := none } : Oper)) (v := ?vm7) rfl (by kernel_rfl) (by kernel_rfl) (by kernel_rfl) (fun _ _ _ h => h) (Or.inl ⟨by rfl, fun w hSw => ?hym7⟩) (by assumption) ?rm7
      case hym7 => (try dsimp only at hSw); go_simp; (try with_reducible rfl)
      (try simp only [Act.put, List.setIfInBounds_toArray, List.set_cons_zero, List.set_cons_succ])
      refine wpAnyH_take (i := 8) (oi := ({ dst := some 21, op := Op.indexAddr 106 (Operand.tmp 19) (Operand.tmp 20), type := 0, pos := "ref.go:23", after := #[{ on := 6, ground := Ground.data }, { on := 7, ground := Ground.data }], guard := none } : Oper)) (v := ?vm8) rfl (by kernel_rfl) (by kernel_rfl) (by kernel_rfl) (fun _ _ _ h => h) (Or.inl ⟨by rfl, fun w hSw => ?hym8⟩) (by assumption) ?rm8
      case hym8 => (try dsimp only at hSw); go_simp; (try with_reducible rfl)
      (try simp only [Act.put, List.setIfInBounds_toArray, List.set_cons_zero, List.set_cons_succ])
      refine wpAnyH_take (i := 9) (oi := ({ dst := some 22, op := Op.fieldAddr 105 (Operand.tmp 21) 1, type := 0, pos := "ref.go:23", after := #[{ on := 8, ground := Ground.data }], guard := none } : Oper)) (v := ?vm9) rfl (by kernel_rfl) (by kernel_rfl) (by kernel_rfl) (fun _ _ _ h => h) (Or.inl ⟨by rfl, fun w hSw => ?hym9⟩) (by assumption) ?rm9
      case hym9 => (try dsimp only at hSw); go_simp; (try with_reducible rfl)
      (try simp only [Act.put, List.setIfInBounds_toArray, List.set_cons_zero, List.set_cons_succ])
      refine wpAnyH_take (i := 10) (oi := ({ dst := some 23, op := Op.load 22 (Operand.tmp 22), type := 22, pos := "ref.go:23", after := #[{ on := 9, ground := Ground.data }], guard := none } : Oper)) (v := ?vm10) rfl (by kernel_rfl) (by kernel_rfl) (by kernel_rfl) (fun _ _ _ h => h) (Or.inl ⟨by rfl, fun w hSw => ?hym10⟩) (by assumption) ?rm10
      case hym10 => (try dsimp only at hSw); go_simp; (try with_reducible rfl)
      (try simp only [Act.put, List.setIfInBounds_toArray, List.set_cons_zero, List.set_cons_succ])
      refine wpAnyH_ready (rs := [11]) (by kernel_rfl) (by simp) ?_
      refine AllReadyH.cons (o := ({ dst := some 24, op := Op.call { callee := Callee.value (Operand.func 87), args := #[Operand.tmp 13, Operand.tmp 18, Operand.tmp 23], argTypes := #[48, 65, 22] }, type := 22, pos := "ref.go:23", after := #[{ on := 0, ground := Ground.data }, { on := 5, ground := Ground.data }, { on := 10, ground := Ground.data }], guard := none } : Oper)) rfl (fun K hK => ?_) AllReadyH.nil
      go_simp
      (refine (rstore_any _ w.heap.size w.heap.size s (newL A V k) k kd a was is (A k) (V k) RD.out hsz hA (by omega) hV).mono ?_; rintro e w2 ⟨rfl, hr2⟩)
      refine hK.out _ _ ?_ (fun hHeld => ?_)
      · exact ⟨cell_turns hHeld.1 (show Turns (fun j => j = w.heap.size) _ _ from hr2.choose_spec.2.2) LBR.out, cell_turns hHeld.2 (show Turns (fun j => j = w.heap.size) _ _ from hr2.choose_spec.2.2) LBR.out⟩
      clear hK K
      (try simp only [Act.put, List.setIfInBounds_toArray, List.set_cons_zero, List.set_cons_succ])
      refine wpAnyH_done (by kernel_rfl) ?_ _
      obtain ⟨s', hr3, _, ht3⟩ := hr2
      have hbb : Below w.heap.size w w2 := (HB.out.drew).trans (ht3.below hsz (fun j hj e => by omega))
      have HR3 := Lib.hid hr3; have HBB := Lib.hid hbb
      clear hr3 ht3 hbb d0 d1
      go_wp2_with fail
      go_roundg (n - (k + 1))
      case measure => omega
      case rel => exact ⟨k + 1, s', _, _, _, _, by omega, rfl, by go_num, by rw [HL.out]; exact HR3.out, HBB.out⟩
    · obtain rfl : k = n := by omega
      obtain ⟨p0, cap, rfl, _⟩ := row_slice HST.out.own
      have e0 : wr.cell? ⟨w.heap.size, 0, none⟩ = some (.slice p0 (newL A V k).length cap) := cell_row HST.out.row 0
      go_wp2_with fail
      go_ret
      refine ⟨wr.heap.size, .slice p0 (newL A V k).length cap, rfl, HB.out.size, ⟨HST.out.good, heap_alloc_new wr _, HST.out.own.alloc _, fun e => ?_⟩, HB.out.alloc HB.out.size _⟩
      have := (HST.out.own.lt _ e).2
      omega
end Go.Proofs.YtdfnocopakbhoaaGreatDoor.S2
namespace Go.Proofs.YtdfnocopakbhoaaGreatDoor.S12
open Go.Proofs.YtdfnocopakbhoaaGreatDoor Go.Proofs.YtdfnocopakbhoaaGreatDoor.S11
open Go.RowKit

def emptyP : Part := ⟨fun _ => True, fun _ => False, fun _ _ _ h => h.elim, fun _ _ _ _ _ _ => trivial⟩
def R7 : Array Oper := #[{ dst := some 19, op := Op.build 105 #[(0, Operand.const (Value.int IntKind.u32 0)), (1, Operand.const (Value.int IntKind.u64 2))], type := 105, pos := "ref.go:40", after := #[], guard := none }, { dst := some 20, op := Op.buildSlice 106 1 #[(0, Operand.tmp 19)], type := 106, pos := "ref.go:40", after := #[{ on := 0, ground := Ground.data }], guard := none }, { dst := some 21, op := Op.call { callee := Callee.value (Operand.func 39), args := #[Operand.tmp 20], argTypes := #[106] }, type := 48, pos := "ref.go:40", after := #[{ on := 1, ground := Ground.data }], guard := none }, { dst := some 22, op := Op.fieldAddr 35 (Operand.tmp 1) 2, type := 0, pos := "ref.go:40", after := #[], guard := none }, { dst := some 23, op := Op.load 23 (Operand.tmp 22), type := 23, pos := "ref.go:40", after := #[{ on := 3, ground := Ground.data }], guard := none }, { dst := some 24, op := Op.fieldAddr 35 (Operand.tmp 1) 1, type := 0, pos := "ref.go:40", after := #[], guard := none }, { dst := some 25, op := Op.load 22 (Operand.tmp 24), type := 22, pos := "ref.go:40", after := #[{ on := 5, ground := Ground.data }], guard := none }, { dst := some 26, op := Op.call { callee := Callee.value (Operand.func 40), args := #[Operand.tmp 23, Operand.tmp 25], argTypes := #[23, 22] }, type := 49, pos := "ref.go:40", after := #[{ on := 4, ground := Ground.data }, { on := 6, ground := Ground.data }, { on := 2, ground := Ground.chain }], guard := none }, { dst := some 27, op := Op.build 112 #[], type := 112, pos := "ref.go:40", after := #[], guard := none }, { dst := some 28, op := Op.box 112 (Operand.tmp 27), type := 50, pos := "ref.go:40", after := #[{ on := 8, ground := Ground.data }], guard := none }, { dst := some 29, op := Op.build 117 #[], type := 117, pos := "ref.go:40", after := #[], guard := none }, { dst := some 30, op := Op.box 117 (Operand.tmp 29), type := 51, pos := "ref.go:40", after := #[{ on := 10, ground := Ground.data }], guard := none }, { dst := some 31, op := Op.call { callee := Callee.value (Operand.func 41), args := #[Operand.const (Value.int IntKind.u64 0)], argTypes := #[22] }, type := 52, pos := "ref.go:40", after := #[{ on := 7, ground := Ground.chain }], guard := none }, { dst := some 32, op := Op.build 121 #[], type := 121, pos := "ref.go:40", after := #[], guard := none }, { dst := some 33, op := Op.box 121 (Operand.tmp 32), type := 53, pos := "ref.go:40", after := #[{ on := 13, ground := Ground.data }], guard := none }, { dst := some 34, op := Op.fieldAddr 35 (Operand.tmp 1) 0, type := 0, pos := "ref.go:40", after := #[], guard := none }, { dst := some 35, op := Op.load 3 (Operand.tmp 34), type := 3, pos := "ref.go:40", after := #[{ on := 15, ground := Ground.data }], guard := none }, { dst := some 36, op := Op.build 55 #[(0, Operand.tmp 21), (1, Operand.tmp 26), (2, Operand.tmp 28), (3, Operand.tmp 30), (4, Operand.tmp 31), (5, Operand.tmp 33), (6, Operand.tmp 35)], type := 55, pos := "ref.go:40", after := #[{ on := 2, ground := Ground.data }, { on := 7, ground := Ground.data }, { on := 9, ground := Ground.data }, { on := 11, ground := Ground.data }, { on := 12, ground := Ground.data }, { on := 14, ground := Ground.data }, { on := 16, ground := Ground.data }], guard := none }, { dst := some 37, op := Op.box 55 (Operand.tmp 36), type := 32, pos := "ref.go:40", after := #[{ on := 17, ground := Ground.data }], guard := none }, { dst := some 4, op := Op.assign (Operand.tmp 37), type := 32, pos := "ref.go:40", after := #[{ on := 18, ground := Ground.data }, { on := 12, ground := Ground.chain }, { on := 0, ground := Ground.phase }, { on := 1, ground := Ground.phase }, { on := 2, ground := Ground.phase }, { on := 3, ground := Ground.phase }, { on := 4, ground := Ground.phase }, { on := 5, ground := Ground.phase }, { on := 6, ground := Ground.phase }, { on := 7, ground := Ground.phase }, { on := 8, ground := Ground.phase }, { on := 9, ground := Ground.phase }, { on := 10, ground := Ground.phase }, { on := 11, ground := Ground.phase }, { on := 12, ground := Ground.phase }, { on := 13, ground := Ground.phase }, { on := 14, ground := Ground.phase }, { on := 15, ground := Ground.phase }, { on := 16, ground := Ground.phase }, { on := 17, ground := Ground.phase }, { on := 18, ground := Ground.phase }], guard := none }]
/-- What has come up: so many of the chain, which of the three boxes. -/
def L7 (c : Nat) (b0 b1 b2 : Bool) : Array Bool := #[true, decide (1 ≤ c), decide (2 ≤ c), true, true, true, true, decide (3 ≤ c), true, b0, true, b1, decide (4 ≤ c), true, b2, true, true, decide (5 ≤ c), decide (6 ≤ c), decide (7 ≤ c)]
noncomputable def F7 (spin : Int) (most n c : Nat) (A : Option Addr) (X : Nat) (x4 x20 x21 x26 x28 x30 x31 x33 x36 x37 : Value) : Act := { tmps := #[.agg #[.int .i64 spin, .int .u64 (most : Int), .slice A n c], .pointer (some ⟨X, 0, none⟩), .pointer none, .int .i64 0, x4, .pointer (some ⟨X, 0, none⟩), .int .i64 spin, .bool false, .bool false, .pointer (some ⟨X, 0, none⟩), .int .i64 spin, .bool false, .bool false, .bool false, .pointer (some ⟨X, 2, none⟩), .slice A n c, .int .i64 (n : Int), .bool false, .bool false, .agg #[.int .u32 0, .int .u64 2], x20, x21, .pointer (some ⟨X, 2, none⟩), .slice A n c, .pointer (some ⟨X, 1, none⟩), .int .u64 (most : Int), x26, .agg Tryz.zeroCells112, x28, .agg Tryz.zeroCells117, x30, x31, .agg #[.slice none 0 0], x33, .pointer (some ⟨X, 0, none⟩), .int .i64 spin, x36, x37, undef], defers := [] }
section
variable (c : Nat) (b0 b1 b2 : Bool)
/-- Which may come up next. -/
theorem ready7 (hc : c ≤ 4) : Region.ready .any R7 (L7 c b0 b1 b2) = (if c = 0 then [1] else []) ++ (if c = 1 then [2] else []) ++ (if c = 2 then [7] else []) ++ (if b0 then [] else [9]) ++ (if b1 then [] else [11]) ++ (if c = 3 then [12] else []) ++ (if b2 then [] else [14]) ++ (if c = 4 ∧ b0 = true ∧ b1 = true ∧ b2 = true then [17] else []) := by
  have h : c = 0 ∨ c = 1 ∨ c = 2 ∨ c = 3 ∨ c = 4 := by omega
  rcases h with rfl | rfl | rfl | rfl | rfl <;> cases b0 <;> cases b1 <;> cases b2 <;> decide +kernel
theorem set1 : (L7 0 b0 b1 b2).setIfInBounds 1 true = L7 1 b0 b1 b2 := rfl
theorem set2 : (L7 1 b0 b1 b2).setIfInBounds 2 true = L7 2 b0 b1 b2 := rfl
theorem set7 : (L7 2 b0 b1 b2).setIfInBounds 7 true = L7 3 b0 b1 b2 := rfl
theorem set12 : (L7 3 b0 b1 b2).setIfInBounds 12 true = L7 4 b0 b1 b2 := rfl
theorem set9 : (L7 c false b1 b2).setIfInBounds 9 true = L7 c true b1 b2 := rfl
theorem set11 : (L7 c b0 false b2).setIfInBounds 11 true = L7 c b0 true b2 := rfl
theorem set14 : (L7 c b0 b1 false).setIfInBounds 14 true = L7 c b0 b1 true := rfl
end
def wordsO : Obj := .cells #[.int .u32 0, .int .u64 2] 105
def sW (on : Bool) (x : Value) (q : Part) : Prop := if on then (∃ B, x = .slice (some ⟨B, 0, none⟩) 1 1 ∧ q = blockP B wordsO) else q = emptyP
def sC (on : Bool) (x : Value) (q : Part) : Prop := if on then (∃ b B s, x = .pointer (some ⟨B, 0, none⟩) ∧ q = rcellsP b B s L02 0 0 0 0 0) else q = emptyP
def sK (most : Nat) (D : List Nat) (on : Bool) (x : Value) (q : Part) : Prop := if on then (∃ b B s, x = .pointer (some ⟨B, 0, none⟩) ∧ q = rclockP b B 0 most s (D.take 65536)) else q = emptyP
def sT (on : Bool) (x : Value) (q : Part) : Prop := if on then (∃ b own, q = rtablesP b own x (S10.M0 0)) else q = emptyP
def sB (T : Nat) (cs : Array Value) (on : Bool) (x : Value) (q : Part) : Prop := if on then (∃ B, x = .pointer (some ⟨B, 0, none⟩) ∧ q = blockP B (.cells cs T)) else q = emptyP
structure G7 (w : World) (X : Nat) (cfg : Obj) (most : Nat) (D : List Nat) (c : Nat) (b0 b1 b2 : Bool) (x20 x21 x26 x28 x30 x31 x33 : Value) (q0 qc qk qt qp ql qn : Part) : Prop where
  ps : Parts w X [blockP X cfg, q0, qc, qk, qt, qp, ql, qn]
  h0 : sW (decide (1 ≤ c)) x20 q0
  hc : sC (decide (2 ≤ c)) x21 qc
  hk : sK most D (decide (3 ≤ c)) x26 qk
  ht : sT (decide (4 ≤ c)) x31 qt
  hp : sB 112 Tryz.zeroCells112 b0 x28 qp
  hl : sB 117 Tryz.zeroCells117 b1 x30 ql
  hn : sB 121 #[.slice none 0 0] b2 x33 qn
/-- A thing more where none stood. -/
theorem Parts.fill {w w' : World} {base i : Nat} {l : List Part} (h : Parts w base l) (hi : l[i]? = some emptyP) (q : Part) (b : Below w.heap.size w w') (hq : q.ok w') (hf : ∀ k, q.fp k → w.heap.size ≤ k) : Parts w' base (l.set i q) :=
  (h.turn hi q hq (Turns.of_below b) (fun k e => .inr (hf k e))).1
end Go.Proofs.YtdfnocopakbhoaaGreatDoor.S12
namespace Go.Proofs.YtdfnocopakbhoaaGreatDoor.S12
open Go.Proofs.YtdfnocopakbhoaaGreatDoor Go.Proofs.YtdfnocopakbhoaaGreatDoor.S11
open Go.RowKit

section
variable {spin : Int} {most n cc : Nat} {A : Option Addr} {X : Nat} {D : List Nat} {w0 : World}
/-- What holds, whatever has come up. -/
def I7 (spin : Int) (most n cc : Nat) (A : Option Addr) (X : Nat) (D : List Nat) (w0 : World) (L : Array Bool) (a : Act) (w : World) : Prop :=
  ∃ (c : Nat) (b0 b1 b2 : Bool) (x20 x21 x26 x28 x30 x31 x33 : Value) (q0 qc qk qt qp ql qn : Part), c ≤ 4 ∧ L = L7 c b0 b1 b2 ∧ a = F7 spin most n cc A X undef x20 x21 x26 x28 x30 x31 x33 undef undef ∧ Below X w0 w ∧ G7 w X (.cells #[.int .i64 spin, .int .u64 (most : Int), .slice A n cc] 35) most D c b0 b1 b2 x20 x21 x26 x28 x30 x31 x33 q0 qc qk qt qp ql qn
set_option maxHeartbeats 4000000 in
set_option maxRecDepth 100000 in
theorem step1 {Q : Exit → Act → World → Prop} {S : World → Prop} {w : World} {b0 b1 b2 : Bool} {x20 x21 x26 x28 x30 x31 x33 : Value} {q0 qc qk qt qp ql qn : Part}
    (hb : Below X w0 w) (g : G7 w X (.cells #[.int .i64 spin, .int .u64 (most : Int), .slice A n cc] 35) most D 0 b0 b1 b2 x20 x21 x26 x28 x30 x31 x33 q0 qc qk qt qp ql qn)
    (hS : ∀ w' l, Parts w' X (blockP X (.cells #[.int .i64 spin, .int .u64 (most : Int), .slice A n cc] 35) :: l) → S w') :
    wpOp Tryz.prog R7 Q 1 (fun a' w' => S w' ∧ I7 spin most n cc A X D w0 ((L7 0 b0 b1 b2).setIfInBounds 1 true) a' w') (F7 spin most n cc A X undef x20 x21 x26 x28 x30 x31 x33 undef undef) w := by
  have hq : q0 = emptyP := g.h0
  subst hq
  have hP := g.ps.fill (i := 1) rfl (blockP w.heap.size wordsO) (below1 w wordsO) (heap_alloc_new w _) (fun k e => Nat.le_of_eq e.symm)
  have hb' : Below X w0 (w.alloc wordsO) := hb.alloc g.ps.size _
  have hfin : S (w.alloc wordsO) ∧ I7 spin most n cc A X D w0 ((L7 0 b0 b1 b2).setIfInBounds 1 true) (F7 spin most n cc A X undef (.slice (some ⟨w.heap.size, 0, none⟩) 1 1) x21 x26 x28 x30 x31 x33 undef undef) (w.alloc wordsO) :=
    ⟨hS _ _ hP, 1, b0, b1, b2, _, _, _, _, _, _, _, _, _, _, _, _, _, _, by omega, set1 .., rfl, hb', ⟨hP, ⟨_, rfl, rfl⟩, g.hc, g.hk, g.ht, g.hp, g.hl, g.hn⟩⟩
  have HF := Lib.hid hfin
  clear hfin hP hb' hS hb g
  refine wpOp_step (o := ({ dst := some 20, op := Op.buildSlice 106 1 #[(0, Operand.tmp 19)], type := 106, pos := "ref.go:40", after := #[{ on := 0, ground := Ground.data }], guard := none } : Oper)) rfl (fun Kq hKq => ?_)
  have HK := Lib.hid hKq
  clear hKq
  unfold F7
  go_simp
  exact HK.out _ _ HF.out
set_option maxHeartbeats 4000000 in
set_option maxRecDepth 100000 in
theorem step9 {Q : Exit → Act → World → Prop} {S : World → Prop} {w : World} {c : Nat} (hc4 : c ≤ 4) {b1 b2 : Bool} {x20 x21 x26 x28 x30 x31 x33 : Value} {q0 qc qk qt qp ql qn : Part}
    (hb : Below X w0 w) (g : G7 w X (.cells #[.int .i64 spin, .int .u64 (most : Int), .slice A n cc] 35) most D c false b1 b2 x20 x21 x26 x28 x30 x31 x33 q0 qc qk qt qp ql qn)
    (hS : ∀ w' l, Parts w' X (blockP X (.cells #[.int .i64 spin, .int .u64 (most : Int), .slice A n cc] 35) :: l) → S w') :
    wpOp Tryz.prog R7 Q 9 (fun a' w' => S w' ∧ I7 spin most n cc A X D w0 ((L7 c false b1 b2).setIfInBounds 9 true) a' w') (F7 spin most n cc A X undef x20 x21 x26 x28 x30 x31 x33 undef undef) w := by
  have hq : qp = emptyP := g.hp
  subst hq
  have hP := g.ps.fill (i := 5) rfl (blockP w.heap.size (.cells Tryz.zeroCells112 112)) (below1 w (.cells Tryz.zeroCells112 112)) (heap_alloc_new w _) (fun k e => Nat.le_of_eq e.symm)
  have hb' : Below X w0 (w.alloc (.cells Tryz.zeroCells112 112)) := hb.alloc g.ps.size _
  have hfin : S (w.alloc (.cells Tryz.zeroCells112 112)) ∧ I7 spin most n cc A X D w0 ((L7 c false b1 b2).setIfInBounds 9 true) (F7 spin most n cc A X undef x20 x21 x26 (.pointer (some ⟨w.heap.size, 0, none⟩)) x30 x31 x33 undef undef) (w.alloc (.cells Tryz.zeroCells112 112)) :=
    ⟨hS _ _ hP, c, true, b1, b2, _, _, _, _, _, _, _, _, _, _, _, _, _, _, hc4, set9 .., rfl, hb', ⟨hP, g.h0, g.hc, g.hk, g.ht, ⟨_, rfl, rfl⟩, g.hl, g.hn⟩⟩
  have HF := Lib.hid hfin
  clear hfin hP hb' hS hb g
  refine wpOp_step (o := ({ dst := some 28, op := Op.box 112 (Operand.tmp 27), type := 50, pos := "ref.go:40", after := #[{ on := 8, ground := Ground.data }], guard := none } : Oper)) rfl (fun Kq hKq => ?_)
  have HK := Lib.hid hKq
  clear hKq
  unfold F7
  go_simp
  exact HK.out _ _ HF.out
set_option maxHeartbeats 4000000 in
set_option maxRecDepth 100000 in
theorem step11 {Q : Exit → Act → World → Prop} {S : World → Prop} {w : World} {c : Nat} (hc4 : c ≤ 4) {b0 b2 : Bool} {x20 x21 x26 x28 x30 x31 x33 : Value} {q0 qc qk qt qp ql qn : Part}
    (hb : Below X w0 w) (g : G7 w X (.cells #[.int .i64 spin, .int .u64 (most : Int), .slice A n cc] 35) most D c b0 false b2 x20 x21 x26 x28 x30 x31 x33 q0 qc qk qt qp ql qn)
    (hS : ∀ w' l, Parts w' X (blockP X (.cells #[.int .i64 spin, .int .u64 (most : Int), .slice A n cc] 35) :: l) → S w') :
    wpOp Tryz.prog R7 Q 11 (fun a' w' => S w' ∧ I7 spin most n cc A X D w0 ((L7 c b0 false b2).setIfInBounds 11 true) a' w') (F7 spin most n cc A X undef x20 x21 x26 x28 x30 x31 x33 undef undef) w := by
  have hq : ql = emptyP := g.hl
  subst hq
  have hP := g.ps.fill (i := 6) rfl (blockP w.heap.size (.cells Tryz.zeroCells117 117)) (below1 w (.cells Tryz.zeroCells117 117)) (heap_alloc_new w _) (fun k e => Nat.le_of_eq e.symm)
  have hb' : Below X w0 (w.alloc (.cells Tryz.zeroCells117 117)) := hb.alloc g.ps.size _
  have hfin : S (w.alloc (.cells Tryz.zeroCells117 117)) ∧ I7 spin most n cc A X D w0 ((L7 c b0 false b2).setIfInBounds 11 true) (F7 spin most n cc A X undef x20 x21 x26 x28 (.pointer (some ⟨w.heap.size, 0, none⟩)) x31 x33 undef undef) (w.alloc (.cells Tryz.zeroCells117 117)) :=
    ⟨hS _ _ hP, c, b0, true, b2, _, _, _, _, _, _, _, _, _, _, _, _, _, _, hc4, set11 .., rfl, hb', ⟨hP, g.h0, g.hc, g.hk, g.ht, g.hp, ⟨_, rfl, rfl⟩, g.hn⟩⟩
  have HF := Lib.hid hfin
  clear hfin hP hb' hS hb g
  refine wpOp_step (o := ({ dst := some 30, op := Op.box 117 (Operand.tmp 29), type := 51, pos := "ref.go:40", after := #[{ on := 10, ground := Ground.data }], guard := none } : Oper)) rfl (fun Kq hKq => ?_)
  have HK := Lib.hid hKq
  clear hKq
  unfold F7
  go_simp
  exact HK.out _ _ HF.out
set_option maxHeartbeats 4000000 in
set_option maxRecDepth 100000 in
theorem step14 {Q : Exit → Act → World → Prop} {S : World → Prop} {w : World} {c : Nat} (hc4 : c ≤ 4) {b0 b1 : Bool} {x20 x21 x26 x28 x30 x31 x33 : Value} {q0 qc qk qt qp ql qn : Part}
    (hb : Below X w0 w) (g : G7 w X (.cells #[.int .i64 spin, .int .u64 (most : Int), .slice A n cc] 35) most D c b0 b1 false x20 x21 x26 x28 x30 x31 x33 q0 qc qk qt qp ql qn)
    (hS : ∀ w' l, Parts w' X (blockP X (.cells #[.int .i64 spin, .int .u64 (most : Int), .slice A n cc] 35) :: l) → S w') :
    wpOp Tryz.prog R7 Q 14 (fun a' w' => S w' ∧ I7 spin most n cc A X D w0 ((L7 c b0 b1 false).setIfInBounds 14 true) a' w') (F7 spin most n cc A X undef x20 x21 x26 x28 x30 x31 x33 undef undef) w := by
  have hq : qn = emptyP := g.hn
  subst hq
  have hP := g.ps.fill (i := 7) rfl (blockP w.heap.size (.cells #[.slice none 0 0] 121)) (below1 w (.cells #[.slice none 0 0] 121)) (heap_alloc_new w _) (fun k e => Nat.le_of_eq e.symm)
  have hb' : Below X w0 (w.alloc (.cells #[.slice none 0 0] 121)) := hb.alloc g.ps.size _
  have hfin : S (w.alloc (.cells #[.slice none 0 0] 121)) ∧ I7 spin most n cc A X D w0 ((L7 c b0 b1 false).setIfInBounds 14 true) (F7 spin most n cc A X undef x20 x21 x26 x28 x30 x31 (.pointer (some ⟨w.heap.size, 0, none⟩)) undef undef) (w.alloc (.cells #[.slice none 0 0] 121)) :=
    ⟨hS _ _ hP, c, b0, b1, true, _, _, _, _, _, _, _, _, _, _, _, _, _, _, hc4, set14 .., rfl, hb', ⟨hP, g.h0, g.hc, g.hk, g.ht, g.hp, g.hl, ⟨_, rfl, rfl⟩⟩⟩
  have HF := Lib.hid hfin
  clear hfin hP hb' hS hb g
  refine wpOp_step (o := ({ dst := some 33, op := Op.box 121 (Operand.tmp 32), type := 53, pos := "ref.go:40", after := #[{ on := 13, ground := Ground.data }], guard := none } : Oper)) rfl (fun Kq hKq => ?_)
  have HK := Lib.hid hKq
  clear hKq
  unfold F7
  go_simp
  exact HK.out _ _ HF.out
set_option maxHeartbeats 4000000 in
set_option maxRecDepth 100000 in
theorem step2 {Q : Exit → Act → World → Prop} {S : World → Prop} {w : World} {b0 b1 b2 : Bool} {x20 x21 x26 x28 x30 x31 x33 : Value} {q0 qc qk qt qp ql qn : Part}
    (hb : Below X w0 w) (g : G7 w X (.cells #[.int .i64 spin, .int .u64 (most : Int), .slice A n cc] 35) most D 1 b0 b1 b2 x20 x21 x26 x28 x30 x31 x33 q0 qc qk qt qp ql qn)
    (hS : ∀ w' l, Parts w' X (blockP X (.cells #[.int .i64 spin, .int .u64 (most : Int), .slice A n cc] 35) :: l) → S w') :
    wpOp Tryz.prog R7 Q 2 (fun a' w' => S w' ∧ I7 spin most n cc A X D w0 ((L7 1 b0 b1 b2).setIfInBounds 2 true) a' w') (F7 spin most n cc A X undef x20 x21 x26 x28 x30 x31 x33 undef undef) w := by
  have hq : qc = emptyP := g.hc
  subst hq
  obtain ⟨B0, hx, hq0⟩ : ∃ B, x20 = .slice (some ⟨B, 0, none⟩) 1 1 ∧ q0 = blockP B wordsO := g.h0
  subst hx
  have hW : w.heap[B0]? = some wordsO := by have := g.ps.ok 1 q0 rfl; rw [hq0] at this; exact this
  have hlt : B0 < w.heap.size := (Array.getElem?_eq_some_iff.1 hW).1
  have hin : S2.WIn w w.heap.size (some ⟨B0, 0, none⟩) 1 (fun _ => 0) (fun _ => 2) := fun _ => ⟨B0, 0, rfl, hlt, fun i hi => by
    obtain rfl : i = 0 := by omega
    exact ⟨cell_row hW 0, cell_row hW 1⟩⟩
  have hcall := S2.rnew_any (some ⟨B0, 0, none⟩) 1 1 (fun _ => 0) (fun _ => 2) (by omega) (fun i _ => ⟨by simp, by simp⟩) w hin
  have HC := Lib.hid hcall
  clear hcall hin hlt hW
  have hfin : ∀ w' (b B : Nat) (s : Value), Below w.heap.size w w' → (rcellsP b B s L02 0 0 0 0 0).ok w' → (∀ k, (rcellsP b B s L02 0 0 0 0 0).fp k → w.heap.size ≤ k) → S w' ∧ I7 spin most n cc A X D w0 ((L7 1 b0 b1 b2).setIfInBounds 2 true) (F7 spin most n cc A X undef (.slice (some ⟨B0, 0, none⟩) 1 1) (.pointer (some ⟨B, 0, none⟩)) x26 x28 x30 x31 x33 undef undef) w' := fun w' b B s hbw hok hfp => by
    have hP := g.ps.fill (i := 2) rfl (rcellsP b B s L02 0 0 0 0 0) hbw hok hfp
    exact ⟨hS _ _ hP, 2, b0, b1, b2, _, _, _, _, _, _, _, _, _, _, _, _, _, _, by omega, set2 .., rfl, hb.trans (hbw.mono g.ps.size), ⟨hP, g.h0, ⟨_, _, _, rfl, rfl⟩, g.hk, g.ht, g.hp, g.hl, g.hn⟩⟩
  have HF := Lib.hid hfin
  clear hfin hS hb g
  refine wpOp_step (o := ({ dst := some 21, op := Op.call { callee := Callee.value (Operand.func 39), args := #[Operand.tmp 20], argTypes := #[106] }, type := 48, pos := "ref.go:40", after := #[{ on := 1, ground := Ground.data }], guard := none } : Oper)) rfl (fun Kq hKq => ?_)
  have HK := Lib.hid hKq
  clear hKq
  unfold F7
  go_simp
  refine HC.out.mono ?_
  rintro e w1 ⟨R, s, rfl, hR, hr, hbw⟩
  refine HK.out _ _ (HF.out w1 w.heap.size R s hbw hr (fun k e => ?_))
  rcases e with e | e
  · omega
  · exact (hr.own.lt k e).1
set_option maxHeartbeats 4000000 in
set_option maxRecDepth 100000 in
theorem step7 {Q : Exit → Act → World → Prop} {S : World → Prop} {w : World} {b0 b1 b2 : Bool} {x20 x21 x26 x28 x30 x31 x33 : Value} {q0 qc qk qt qp ql qn : Part}
    (hb : Below X w0 w) (g : G7 w X (.cells #[.int .i64 spin, .int .u64 (most : Int), .slice A n cc] 35) most D 2 b0 b1 b2 x20 x21 x26 x28 x30 x31 x33 q0 qc qk qt qp ql qn)
    (hS : ∀ w' l, Parts w' X (blockP X (.cells #[.int .i64 spin, .int .u64 (most : Int), .slice A n cc] 35) :: l) → S w')
    (hclk : ∀ W, Below X w0 W → Calls Tryz.prog 40 #[.slice A n cc, .int .u64 (most : Int)] W (S3.RMade W 0 most (D.take 65536))) :
    wpOp Tryz.prog R7 Q 7 (fun a' w' => S w' ∧ I7 spin most n cc A X D w0 ((L7 2 b0 b1 b2).setIfInBounds 7 true) a' w') (F7 spin most n cc A X undef x20 x21 x26 x28 x30 x31 x33 undef undef) w := by
  have hq : qk = emptyP := g.hk
  subst hq
  have hcall := hclk w hb
  have HC := Lib.hid hcall
  clear hcall hclk
  have hfin : ∀ w' (b B : Nat) (s : Value), Below w.heap.size w w' → (rclockP b B 0 most s (D.take 65536)).ok w' → (∀ k, (rclockP b B 0 most s (D.take 65536)).fp k → w.heap.size ≤ k) → S w' ∧ I7 spin most n cc A X D w0 ((L7 2 b0 b1 b2).setIfInBounds 7 true) (F7 spin most n cc A X undef x20 x21 (.pointer (some ⟨B, 0, none⟩)) x28 x30 x31 x33 undef undef) w' := fun w' b B s hbw hok hfp => by
    have hP := g.ps.fill (i := 3) rfl (rclockP b B 0 most s (D.take 65536)) hbw hok hfp
    exact ⟨hS _ _ hP, 3, b0, b1, b2, _, _, _, _, _, _, _, _, _, _, _, _, _, _, by omega, set7 .., rfl, hb.trans (hbw.mono g.ps.size), ⟨hP, g.h0, g.hc, ⟨_, _, _, rfl, rfl⟩, g.ht, g.hp, g.hl, g.hn⟩⟩
  have HF := Lib.hid hfin
  clear hfin hS hb g
  refine wpOp_step (o := ({ dst := some 26, op := Op.call { callee := Callee.value (Operand.func 40), args := #[Operand.tmp 23, Operand.tmp 25], argTypes := #[23, 22] }, type := 49, pos := "ref.go:40", after := #[{ on := 4, ground := Ground.data }, { on := 6, ground := Ground.data }, { on := 2, ground := Ground.chain }], guard := none } : Oper)) rfl (fun Kq hKq => ?_)
  have HK := Lib.hid hKq
  clear hKq
  unfold F7
  go_simp
  refine HC.out.mono ?_
  rintro e w1 ⟨R, s, rfl, hR, hr, hbw⟩
  refine HK.out _ _ (HF.out w1 w.heap.size R s hbw hr (fun k e => ?_))
  rcases e with e | e
  · omega
  · exact (hr.own.lt k e).1
set_option maxHeartbeats 4000000 in
set_option maxRecDepth 100000 in
theorem step12 {Q : Exit → Act → World → Prop} {S : World → Prop} {w : World} {b0 b1 b2 : Bool} {x20 x21 x26 x28 x30 x31 x33 : Value} {q0 qc qk qt qp ql qn : Part}
    (hb : Below X w0 w) (g : G7 w X (.cells #[.int .i64 spin, .int .u64 (most : Int), .slice A n cc] 35) most D 3 b0 b1 b2 x20 x21 x26 x28 x30 x31 x33 q0 qc qk qt qp ql qn)
    (hS : ∀ w' l, Parts w' X (blockP X (.cells #[.int .i64 spin, .int .u64 (most : Int), .slice A n cc] 35) :: l) → S w') :
    wpOp Tryz.prog R7 Q 12 (fun a' w' => S w' ∧ I7 spin most n cc A X D w0 ((L7 3 b0 b1 b2).setIfInBounds 12 true) a' w') (F7 spin most n cc A X undef x20 x21 x26 x28 x30 x31 x33 undef undef) w := by
  have hq : qt = emptyP := g.ht
  subst hq
  have hcall := S10.rnew_any 0 w
  have HC := Lib.hid hcall
  clear hcall
  have hfin : ∀ w' (x : Value) (b : Nat) (own : Nat → Option S10.Role), Below w.heap.size w w' → (rtablesP b own x (S10.M0 0)).ok w' → (∀ k, (rtablesP b own x (S10.M0 0)).fp k → w.heap.size ≤ k) → S w' ∧ I7 spin most n cc A X D w0 ((L7 3 b0 b1 b2).setIfInBounds 12 true) (F7 spin most n cc A X undef x20 x21 x26 x28 x30 (x) x33 undef undef) w' := fun w' x b own hbw hok hfp => by
    have hP := g.ps.fill (i := 4) rfl (rtablesP b own x (S10.M0 0)) hbw hok hfp
    exact ⟨hS _ _ hP, 4, b0, b1, b2, _, _, _, _, _, _, _, _, _, _, _, _, _, _, by omega, set12 .., rfl, hb.trans (hbw.mono g.ps.size), ⟨hP, g.h0, g.hc, g.hk, ⟨_, _, rfl⟩, g.hp, g.hl, g.hn⟩⟩
  have HF := Lib.hid hfin
  clear hfin hS hb g
  refine wpOp_step (o := ({ dst := some 31, op := Op.call { callee := Callee.value (Operand.func 41), args := #[Operand.const (Value.int IntKind.u64 0)], argTypes := #[22] }, type := 52, pos := "ref.go:40", after := #[{ on := 7, ground := Ground.chain }], guard := none } : Oper)) rfl (fun Kq hKq => ?_)
  have HK := Lib.hid hKq
  clear hKq
  unfold F7
  go_simp
  refine HC.out.mono ?_
  rintro e w1 ⟨s, own, rfl, hr, hbw⟩
  refine HK.out _ _ (HF.out w1 s w.heap.size own hbw hr (fun k e => (hr.fp e).1))
end
end Go.Proofs.YtdfnocopakbhoaaGreatDoor.S12
namespace Go.Proofs.YtdfnocopakbhoaaGreatDoor.S12
open Go.Proofs.YtdfnocopakbhoaaGreatDoor Go.Proofs.YtdfnocopakbhoaaGreatDoor.S11
open Go.RowKit

/-- A world's cells: six pointers, the spins, the tokens. -/
noncomputable def wcells (a b c d e f : Value) (spin : Int) : Array Value := ((((((Tryz.zeroCells55.setIfInBounds 0 a).setIfInBounds 1 b).setIfInBounds 2 c).setIfInBounds 3 d).setIfInBounds 4 e).setIfInBounds 5 f).setIfInBounds 6 (.int .i64 spin)
section
variable {spin : Int} {most n cc : Nat} {A : Option Addr} {X : Nat} {D : List Nat} {w0 : World}
set_option maxHeartbeats 4000000 in
set_option maxRecDepth 100000 in
theorem fin7 {Q : Exit → Act → World → Prop} {S : World → Prop} {w : World} {Bc Bk Bp Bl Bn Bt : Nat} {x20 : Value}
    (hQp : ∀ c a (t : Nat) v w, Q (.panic c) (Act.put a (some t) v) w → Q (.panic c) a w) (hSw : S w) (hS1 : S (w.alloc (.cells (wcells (.pointer (some ⟨Bc, 0, none⟩)) (.pointer (some ⟨Bk, 0, none⟩)) (.pointer (some ⟨Bp, 0, none⟩)) (.pointer (some ⟨Bl, 0, none⟩)) (.pointer (some ⟨Bt, 0, none⟩)) (.pointer (some ⟨Bn, 0, none⟩)) spin) 55)))
    (hout : Q .normal (F7 spin most n cc A X (.pointer (some ⟨w.heap.size, 0, none⟩)) x20 (.pointer (some ⟨Bc, 0, none⟩)) (.pointer (some ⟨Bk, 0, none⟩)) (.pointer (some ⟨Bp, 0, none⟩)) (.pointer (some ⟨Bl, 0, none⟩)) (.pointer (some ⟨Bt, 0, none⟩)) (.pointer (some ⟨Bn, 0, none⟩)) (.agg (wcells (.pointer (some ⟨Bc, 0, none⟩)) (.pointer (some ⟨Bk, 0, none⟩)) (.pointer (some ⟨Bp, 0, none⟩)) (.pointer (some ⟨Bl, 0, none⟩)) (.pointer (some ⟨Bt, 0, none⟩)) (.pointer (some ⟨Bn, 0, none⟩)) spin)) (.pointer (some ⟨w.heap.size, 0, none⟩))) (w.alloc (.cells (wcells (.pointer (some ⟨Bc, 0, none⟩)) (.pointer (some ⟨Bk, 0, none⟩)) (.pointer (some ⟨Bp, 0, none⟩)) (.pointer (some ⟨Bl, 0, none⟩)) (.pointer (some ⟨Bt, 0, none⟩)) (.pointer (some ⟨Bn, 0, none⟩)) spin) 55)))
    (m : Nat) : wpAnyH Tryz.prog .any R7 Q S (m + 3) (L7 4 true true true) (F7 spin most n cc A X undef x20 (.pointer (some ⟨Bc, 0, none⟩)) (.pointer (some ⟨Bk, 0, none⟩)) (.pointer (some ⟨Bp, 0, none⟩)) (.pointer (some ⟨Bl, 0, none⟩)) (.pointer (some ⟨Bt, 0, none⟩)) (.pointer (some ⟨Bn, 0, none⟩)) undef undef) w := by
  unfold wcells at hS1 hout
  unfold F7 at hout
  have HS1 := Lib.hid hS1
  have HOUT := Lib.hid hout
  clear hS1 hout
  have hHeld := hSw
  unfold F7 R7 L7
  refine wpAnyH_take (i := 17) (oi := ({ dst := some 36, op := Op.build 55 #[(0, Operand.tmp 21), (1, Operand.tmp 26), (2, Operand.tmp 28), (3, Operand.tmp 30), (4, Operand.tmp 31), (5, Operand.tmp 33), (6, Operand.tmp 35)], type := 55, pos := "ref.go:40", after := #[{ on := 2, ground := Ground.data }, { on := 7, ground := Ground.data }, { on := 9, ground := Ground.data }, { on := 11, ground := Ground.data }, { on := 12, ground := Ground.data }, { on := 14, ground := Ground.data }, { on := 16, ground := Ground.data }], guard := none } : Oper)) (v := ?vz17) rfl (by kernel_rfl) (by kernel_rfl) (by kernel_rfl) (fun c a w h => hQp c a _ _ w h) (Or.inl ⟨by rfl, fun w hSw => ?hyz17⟩) (by assumption) ?rz17
  case hyz17 => (try dsimp only at hSw); go_simp; (try with_reducible rfl)
  (try simp only [Act.put, List.setIfInBounds_toArray, List.set_cons_zero, List.set_cons_succ])
  refine wpAnyH_ready (rs := [18]) (by kernel_rfl) (by simp) ?_
  refine AllReadyH.cons (o := ({ dst := some 37, op := Op.box 55 (Operand.tmp 36), type := 32, pos := "ref.go:40", after := #[{ on := 17, ground := Ground.data }], guard := none } : Oper)) rfl (fun Kq hKq => ?_) AllReadyH.nil
  go_simp
  refine hKq.out _ _ ?_ (fun hHeld => ?_)
  · exact HS1.out
  clear hKq Kq
  (try simp only [Act.put, List.setIfInBounds_toArray, List.set_cons_zero, List.set_cons_succ])
  refine wpAnyH_take (i := 19) (oi := ({ dst := some 4, op := Op.assign (Operand.tmp 37), type := 32, pos := "ref.go:40", after := #[{ on := 18, ground := Ground.data }, { on := 12, ground := Ground.chain }, { on := 0, ground := Ground.phase }, { on := 1, ground := Ground.phase }, { on := 2, ground := Ground.phase }, { on := 3, ground := Ground.phase }, { on := 4, ground := Ground.phase }, { on := 5, ground := Ground.phase }, { on := 6, ground := Ground.phase }, { on := 7, ground := Ground.phase }, { on := 8, ground := Ground.phase }, { on := 9, ground := Ground.phase }, { on := 10, ground := Ground.phase }, { on := 11, ground := Ground.phase }, { on := 12, ground := Ground.phase }, { on := 13, ground := Ground.phase }, { on := 14, ground := Ground.phase }, { on := 15, ground := Ground.phase }, { on := 16, ground := Ground.phase }, { on := 17, ground := Ground.phase }, { on := 18, ground := Ground.phase }], guard := none } : Oper)) (v := ?vz19) rfl (by kernel_rfl) (by kernel_rfl) (by kernel_rfl) (fun c a w h => hQp c a _ _ w h) (Or.inl ⟨by rfl, fun w hSw => ?hyz19⟩) (by assumption) ?rz19
  case hyz19 => (try dsimp only at hSw); go_simp; (try with_reducible rfl)
  (try simp only [Act.put, List.setIfInBounds_toArray, List.set_cons_zero, List.set_cons_succ])
  refine wpAnyH_done (by kernel_rfl) ?_ _
  exact HOUT.out
/-- Whatever the order: a world of the document's, each of its things in blocks of its own. -/
theorem all7 {Q : Exit → Act → World → Prop} {S : World → Prop} {w : World} {q0 qc qk qt qp ql qn : Part}
    (hQp : ∀ c a (t : Nat) v w, Q (.panic c) (Act.put a (some t) v) w → Q (.panic c) a w) (hb : Below X w0 w) (g : G7 w X (.cells #[.int .i64 spin, .int .u64 (most : Int), .slice A n cc] 35) most D 0 false false false undef undef undef undef undef undef undef q0 qc qk qt qp ql qn)
    (hS : ∀ w' l, Parts w' X (blockP X (.cells #[.int .i64 spin, .int .u64 (most : Int), .slice A n cc] 35) :: l) → S w')
    (hclk : ∀ W, Below X w0 W → Calls Tryz.prog 40 #[.slice A n cc, .int .u64 (most : Int)] W (S3.RMade W 0 most (D.take 65536)))
    (hout : ∀ (w : World) (Bc Bk Bp Bl Bt Bn bc bk bt : Nat) (sc sk : Value) (own : Nat → Option S10.Role) (q0 : Part) (x20 : Value), Below X w0 w →
      Parts w X [blockP X (.cells #[.int .i64 spin, .int .u64 (most : Int), .slice A n cc] 35), q0, rcellsP bc Bc sc L02 0 0 0 0 0, rclockP bk Bk 0 most sk (D.take 65536), rtablesP bt own (.pointer (some ⟨Bt, 0, none⟩)) (S10.M0 0), blockP Bp (.cells Tryz.zeroCells112 112), blockP Bl (.cells Tryz.zeroCells117 117), blockP Bn (.cells #[.slice none 0 0] 121)] →
      Q .normal (F7 spin most n cc A X (.pointer (some ⟨w.heap.size, 0, none⟩)) x20 (.pointer (some ⟨Bc, 0, none⟩)) (.pointer (some ⟨Bk, 0, none⟩)) (.pointer (some ⟨Bp, 0, none⟩)) (.pointer (some ⟨Bl, 0, none⟩)) (.pointer (some ⟨Bt, 0, none⟩)) (.pointer (some ⟨Bn, 0, none⟩)) (.agg (wcells (.pointer (some ⟨Bc, 0, none⟩)) (.pointer (some ⟨Bk, 0, none⟩)) (.pointer (some ⟨Bp, 0, none⟩)) (.pointer (some ⟨Bl, 0, none⟩)) (.pointer (some ⟨Bt, 0, none⟩)) (.pointer (some ⟨Bn, 0, none⟩)) spin)) (.pointer (some ⟨w.heap.size, 0, none⟩))) (w.alloc (.cells (wcells (.pointer (some ⟨Bc, 0, none⟩)) (.pointer (some ⟨Bk, 0, none⟩)) (.pointer (some ⟨Bp, 0, none⟩)) (.pointer (some ⟨Bl, 0, none⟩)) (.pointer (some ⟨Bt, 0, none⟩)) (.pointer (some ⟨Bn, 0, none⟩)) spin) 55)))
    (fuel : Nat) (hf : openN (L7 0 false false false) ≤ fuel) : wpAnyH Tryz.prog .any R7 Q S fuel (L7 0 false false false) (F7 spin most n cc A X undef undef undef undef undef undef undef undef undef undef) w := by
  refine wpAnyH_inv2 (I7 spin most n cc A X D w0) (fun fuel L a w hI hf => ?_) fuel _ _ w hf ⟨0, false, false, false, _, _, _, _, _, _, _, _, _, _, _, _, _, _, by omega, rfl, rfl, hb, g⟩
  obtain ⟨c, b0, b1, b2, x20, x21, x26, x28, x30, x31, x33, q0, qc, qk, qt, qp, ql, qn, hc4, rfl, rfl, hb, g⟩ := hI
  by_cases hfin : c = 4 ∧ b0 = true ∧ b1 = true ∧ b2 = true
  · obtain ⟨rfl, rfl, rfl, rfl⟩ := hfin
    left
    obtain ⟨bc, Bc, sc, rfl, rfl⟩ : ∃ b B s, x21 = .pointer (some ⟨B, 0, none⟩) ∧ qc = rcellsP b B s L02 0 0 0 0 0 := g.hc
    obtain ⟨bk, Bk, sk, rfl, rfl⟩ : ∃ b B s, x26 = .pointer (some ⟨B, 0, none⟩) ∧ qk = rclockP b B 0 most s (D.take 65536) := g.hk
    obtain ⟨bt, own, rfl⟩ : ∃ b own, qt = rtablesP b own x31 (S10.M0 0) := g.ht
    obtain ⟨Bp, rfl, rfl⟩ : ∃ B, x28 = .pointer (some ⟨B, 0, none⟩) ∧ qp = blockP B (.cells Tryz.zeroCells112 112) := g.hp
    obtain ⟨Bl, rfl, rfl⟩ : ∃ B, x30 = .pointer (some ⟨B, 0, none⟩) ∧ ql = blockP B (.cells Tryz.zeroCells117 117) := g.hl
    obtain ⟨Bn, rfl, rfl⟩ : ∃ B, x33 = .pointer (some ⟨B, 0, none⟩) ∧ qn = blockP B (.cells #[.slice none 0 0] 121) := g.hn
    obtain ⟨Bt, rfl⟩ : ∃ B, x31 = .pointer (some ⟨B, 0, none⟩) := by
      have : S10.Rt w bt own x31 (S10.M0 0) := g.ps.ok 4 _ rfl
      obtain ⟨rb, Q', T', V', h⟩ := this
      exact ⟨rb, h.hs⟩
    have h3 : openN (L7 4 true true true) = 3 := rfl
    obtain ⟨m, rfl⟩ : ∃ m, fuel = m + 3 := ⟨fuel - 3, by omega⟩
    exact fin7 hQp (hS _ _ g.ps) (hS _ _ (g.ps.new (below1 _ _))) (hout w Bc Bk Bp Bl Bt Bn bc bk bt sc sk own q0 x20 hb g.ps) m
  · right
    rw [ready7 c b0 b1 b2 hc4]
    refine ⟨fun e => ?_, fun i hi => ?_⟩
    · have h : c = 0 ∨ c = 1 ∨ c = 2 ∨ c = 3 ∨ c = 4 := by omega
      rcases h with rfl | rfl | rfl | rfl | rfl <;> simp at e
      obtain ⟨e0, e1, e2⟩ := e
      cases b0 <;> cases b1 <;> cases b2 <;> simp at e0 e1 e2 hfin
    · simp only [List.mem_append] at hi
      rcases hi with ((((((hi | hi) | hi) | hi) | hi) | hi) | hi) | hi
      · split at hi
        · rename_i hc; subst hc; simp at hi; subst hi; exact step1 hb g hS
        · cases hi
      · split at hi
        · rename_i hc; subst hc; simp at hi; subst hi; exact step2 hb g hS
        · cases hi
      · split at hi
        · rename_i hc; subst hc; simp at hi; subst hi; exact step7 hb g hS hclk
        · cases hi
      · cases b0
        · simp at hi; subst hi; exact step9 hc4 hb g hS
        · cases hi
      · cases b1
        · simp at hi; subst hi; exact step11 hc4 hb g hS
        · cases hi
      · split at hi
        · rename_i hc; subst hc; simp at hi; subst hi; exact step12 hb g hS
        · cases hi
      · cases b2
        · simp at hi; subst hi; exact step14 hc4 hb g hS
        · cases hi
      · rw [if_neg hfin] at hi; cases hi
end
end Go.Proofs.YtdfnocopakbhoaaGreatDoor.S12
namespace Go.Proofs.YtdfnocopakbhoaaGreatDoor.S12
open Go.Proofs.YtdfnocopakbhoaaGreatDoor Go.Proofs.YtdfnocopakbhoaaGreatDoor.S11
open Go.RowKit

/-- A world of the document's as it is made: six things, and its own block. -/
def RWorld (w w' : World) (spin : Int) (most : Nat) (D : List Nat) (Bw : Nat) : Prop :=
  ∃ (q : List Part) (Bc Bk Bp Bl Bt Bn bc bk bt : Nat) (sc sk : Value) (own : Nat → Option S10.Role),
    Parts w' w.heap.size (q ++ [rcellsP bc Bc sc L02 0 0 0 0 0, rclockP bk Bk 0 most sk (D.take 65536), rtablesP bt own (.pointer (some ⟨Bt, 0, none⟩)) (S10.M0 0), blockP Bp (.cells Tryz.zeroCells112 112), blockP Bl (.cells Tryz.zeroCells117 117), blockP Bn (.cells #[.slice none 0 0] 121), blockP Bw (.cells (wcells (.pointer (some ⟨Bc, 0, none⟩)) (.pointer (some ⟨Bk, 0, none⟩)) (.pointer (some ⟨Bp, 0, none⟩)) (.pointer (some ⟨Bl, 0, none⟩)) (.pointer (some ⟨Bt, 0, none⟩)) (.pointer (some ⟨Bn, 0, none⟩)) spin) 55)])
set_option maxHeartbeats 4000000 in
set_option maxRecDepth 100000 in
theorem rworld_any {w : World} (spin : Int) (most n c : Nat) (A : Option Addr) {D : List Nat} (hs : 0 ≤ spin ∧ spin ≤ 16) (hn : n ≤ 65536)
    (hclk : ∀ W, Below w.heap.size w W → Calls Tryz.prog 40 #[.slice A n c, .int .u64 (most : Int)] W (S3.RMade W 0 most (D.take 65536))) :
    Calls Tryz.prog 7 #[.agg #[.int .i64 spin, .int .u64 (most : Int), .slice A n c]] w fun e w' => ∃ Bw, e = .returned (.tuple #[.pointer (some ⟨Bw, 0, none⟩), .int .i64 0]) ∧ RWorld w w' spin most D Bw ∧ Below w.heap.size w w' := by
  have hnew := heap_alloc_new w (.cells #[.int .i64 spin, .int .u64 (most : Int), .slice A n c] 35)
  have c0 := cell_row hnew 0; have c1 := cell_row hnew 1; have c2 := cell_row hnew 2
  simp only [List.getElem?_toArray, List.getElem?_cons_zero, List.getElem?_cons_succ] at c0 c1 c2
  have h1 : ¬ spin < 0 := by omega
  have h2 : ¬ 16 < spin := by omega
  have h3 : ¬ (65536 : Int) < (n : Int) := by omega
  have hP0 := (parts_nil w).push (blockP w.heap.size (.cells #[.int .i64 spin, .int .u64 (most : Int), .slice A n c] 35)) (below1 w (.cells #[.int .i64 spin, .int .u64 (most : Int), .slice A n c] 35)) hnew (fun k e => Nat.le_of_eq e.symm)
  have hP : Parts (w.alloc (.cells #[.int .i64 spin, .int .u64 (most : Int), .slice A n c] 35)).drew w.heap.size [blockP w.heap.size (.cells #[.int .i64 spin, .int .u64 (most : Int), .slice A n c] 35), emptyP, emptyP, emptyP, emptyP, emptyP, emptyP, emptyP] := by
    refine ⟨hP0.drew.size, fun i p hp => ?_, fun i j p q hp hq hij k hk hk2 => ?_, fun i p hp k hk => ?_⟩
    · match i, hp with
      | 0, hp => exact hP0.drew.ok 0 p hp
      | 1, hp => injection hp with hp; subst hp; trivial
      | 2, hp => injection hp with hp; subst hp; trivial
      | 3, hp => injection hp with hp; subst hp; trivial
      | 4, hp => injection hp with hp; subst hp; trivial
      | 5, hp => injection hp with hp; subst hp; trivial
      | 6, hp => injection hp with hp; subst hp; trivial
      | 7, hp => injection hp with hp; subst hp; trivial
      | i + 8, hp => simp at hp
    · have hz : ∀ i p, [blockP w.heap.size (.cells #[.int .i64 spin, .int .u64 (most : Int), .slice A n c] 35), emptyP, emptyP, emptyP, emptyP, emptyP, emptyP, emptyP][i]? = some p → p.fp k → i = 0 := fun i p hp hk => by
        match i, hp with
        | 0, _ => rfl
        | 1, hp => injection hp with hp; subst hp; exact hk.elim
        | 2, hp => injection hp with hp; subst hp; exact hk.elim
        | 3, hp => injection hp with hp; subst hp; exact hk.elim
        | 4, hp => injection hp with hp; subst hp; exact hk.elim
        | 5, hp => injection hp with hp; subst hp; exact hk.elim
        | 6, hp => injection hp with hp; subst hp; exact hk.elim
        | 7, hp => injection hp with hp; subst hp; exact hk.elim
        | i + 8, hp => simp at hp
      exact hij ((hz i p hp hk).trans (hz j q hq hk2).symm)
    · match i, hp with
      | 0, hp => exact hP0.drew.low 0 p hp k hk
      | 1, hp => injection hp with hp; subst hp; exact hk.elim
      | 2, hp => injection hp with hp; subst hp; exact hk.elim
      | 3, hp => injection hp with hp; subst hp; exact hk.elim
      | 4, hp => injection hp with hp; subst hp; exact hk.elim
      | 5, hp => injection hp with hp; subst hp; exact hk.elim
      | 6, hp => injection hp with hp; subst hp; exact hk.elim
      | 7, hp => injection hp with hp; subst hp; exact hk.elim
      | i + 8, hp => simp at hp
  have HP := Lib.hid hP; have HCLK := Lib.hid hclk
  have HB0 : Hid (Below w.heap.size w (w.alloc (.cells #[.int .i64 spin, .int .u64 (most : Int), .slice A n c] 35))) := Lib.hid (below1 _ _)
  clear hnew hP0 hP hclk
  go_enter Tryz.func7, Tryz.ntmps7
  go_upto_region 3 with (fail)
  generalize hX : w.heap.size = X at *
  generalize w.alloc (.cells #[.int .i64 spin, .int .u64 (most : Int), .slice A n c] 35) = wb at *
  have HX := Lib.hid hX
  clear hX
  refine wp_region_held_drew (S := fun w' => w'.cell? ⟨X, 0, none⟩ = some (.int .i64 spin) ∧ w'.cell? ⟨X, 1, none⟩ = some (.int .u64 (most : Int)) ∧ w'.cell? ⟨X, 2, none⟩ = some (.slice A n c)) (by kernel_rfl) ?_ (fun hHeld => ?_)
  · exact ⟨c0, c1, c2⟩
  refine wpAnyH_take (i := 0) (oi := ({ dst := some 19, op := Op.build 105 #[(0, Operand.const (Value.int IntKind.u32 0)), (1, Operand.const (Value.int IntKind.u64 2))], type := 105, pos := "ref.go:40", after := #[], guard := none } : Oper)) (v := ?va0) rfl (by kernel_rfl) (by kernel_rfl) (by kernel_rfl) (fun _ _ _ h => h) (Or.inl ⟨by rfl, fun w hSw => ?hya0⟩) (by assumption) ?ra0
  case hya0 => (try dsimp only at hSw); go_simp; (try with_reducible rfl)
  (try simp only [Act.put, List.setIfInBounds_toArray, List.set_cons_zero, List.set_cons_succ])
  refine wpAnyH_take (i := 3) (oi := ({ dst := some 22, op := Op.fieldAddr 35 (Operand.tmp 1) 2, type := 0, pos := "ref.go:40", after := #[], guard := none } : Oper)) (v := ?va3) rfl (by kernel_rfl) (by kernel_rfl) (by kernel_rfl) (fun _ _ _ h => h) (Or.inl ⟨by rfl, fun w hSw => ?hya3⟩) (by assumption) ?ra3
  case hya3 => (try dsimp only at hSw); go_simp; (try with_reducible rfl)
  (try simp only [Act.put, List.setIfInBounds_toArray, List.set_cons_zero, List.set_cons_succ])
  refine wpAnyH_take (i := 4) (oi := ({ dst := some 23, op := Op.load 23 (Operand.tmp 22), type := 23, pos := "ref.go:40", after := #[{ on := 3, ground := Ground.data }], guard := none } : Oper)) (v := ?va4) rfl (by kernel_rfl) (by kernel_rfl) (by kernel_rfl) (fun _ _ _ h => h) (Or.inl ⟨by rfl, fun w hSw => ?hya4⟩) (by assumption) ?ra4
  case hya4 => (try dsimp only at hSw); go_simp; (try with_reducible rfl)
  (try simp only [Act.put, List.setIfInBounds_toArray, List.set_cons_zero, List.set_cons_succ])
  refine wpAnyH_take (i := 5) (oi := ({ dst := some 24, op := Op.fieldAddr 35 (Operand.tmp 1) 1, type := 0, pos := "ref.go:40", after := #[], guard := none } : Oper)) (v := ?va5) rfl (by kernel_rfl) (by kernel_rfl) (by kernel_rfl) (fun _ _ _ h => h) (Or.inl ⟨by rfl, fun w hSw => ?hya5⟩) (by assumption) ?ra5
  case hya5 => (try dsimp only at hSw); go_simp; (try with_reducible rfl)
  (try simp only [Act.put, List.setIfInBounds_toArray, List.set_cons_zero, List.set_cons_succ])
  refine wpAnyH_take (i := 6) (oi := ({ dst := some 25, op := Op.load 22 (Operand.tmp 24), type := 22, pos := "ref.go:40", after := #[{ on := 5, ground := Ground.data }], guard := none } : Oper)) (v := ?va6) rfl (by kernel_rfl) (by kernel_rfl) (by kernel_rfl) (fun _ _ _ h => h) (Or.inl ⟨by rfl, fun w hSw => ?hya6⟩) (by assumption) ?ra6
  case hya6 => (try dsimp only at hSw); go_simp; (try with_reducible rfl)
  (try simp only [Act.put, List.setIfInBounds_toArray, List.set_cons_zero, List.set_cons_succ])
  refine wpAnyH_take (i := 8) (oi := ({ dst := some 27, op := Op.build 112 #[], type := 112, pos := "ref.go:40", after := #[], guard := none } : Oper)) (v := ?va8) rfl (by kernel_rfl) (by kernel_rfl) (by kernel_rfl) (fun _ _ _ h => h) (Or.inl ⟨by rfl, fun w hSw => ?hya8⟩) (by assumption) ?ra8
  case hya8 => (try dsimp only at hSw); go_simp; (try with_reducible rfl)
  (try simp only [Act.put, List.setIfInBounds_toArray, List.set_cons_zero, List.set_cons_succ])
  refine wpAnyH_take (i := 10) (oi := ({ dst := some 29, op := Op.build 117 #[], type := 117, pos := "ref.go:40", after := #[], guard := none } : Oper)) (v := ?va10) rfl (by kernel_rfl) (by kernel_rfl) (by kernel_rfl) (fun _ _ _ h => h) (Or.inl ⟨by rfl, fun w hSw => ?hya10⟩) (by assumption) ?ra10
  case hya10 => (try dsimp only at hSw); go_simp; (try with_reducible rfl)
  (try simp only [Act.put, List.setIfInBounds_toArray, List.set_cons_zero, List.set_cons_succ])
  refine wpAnyH_take (i := 13) (oi := ({ dst := some 32, op := Op.build 121 #[], type := 121, pos := "ref.go:40", after := #[], guard := none } : Oper)) (v := ?va13) rfl (by kernel_rfl) (by kernel_rfl) (by kernel_rfl) (fun _ _ _ h => h) (Or.inl ⟨by rfl, fun w hSw => ?hya13⟩) (by assumption) ?ra13
  case hya13 => (try dsimp only at hSw); go_simp; (try with_reducible rfl)
  (try simp only [Act.put, List.setIfInBounds_toArray, List.set_cons_zero, List.set_cons_succ])
  refine wpAnyH_take (i := 15) (oi := ({ dst := some 34, op := Op.fieldAddr 35 (Operand.tmp 1) 0, type := 0, pos := "ref.go:40", after := #[], guard := none } : Oper)) (v := ?va15) rfl (by kernel_rfl) (by kernel_rfl) (by kernel_rfl) (fun _ _ _ h => h) (Or.inl ⟨by rfl, fun w hSw => ?hya15⟩) (by assumption) ?ra15
  case hya15 => (try dsimp only at hSw); go_simp; (try with_reducible rfl)
  (try simp only [Act.put, List.setIfInBounds_toArray, List.set_cons_zero, List.set_cons_succ])
  refine wpAnyH_take (i := 16) (oi := ({ dst := some 35, op := Op.load 3 (Operand.tmp 34), type := 3, pos := "ref.go:40", after := #[{ on := 15, ground := Ground.data }], guard := none } : Oper)) (v := ?va16) rfl (by kernel_rfl) (by kernel_rfl) (by kernel_rfl) (fun _ _ _ h => h) (Or.inl ⟨by rfl, fun w hSw => ?hya16⟩) (by assumption) ?ra16
  case hya16 => (try dsimp only at hSw); go_simp; (try with_reducible rfl)
  (try simp only [Act.put, List.setIfInBounds_toArray, List.set_cons_zero, List.set_cons_succ])
  clear hHeld c0 c1 c2 h1 h2 h3
  refine all7 (w0 := w) (D := D) (fun c a d v w h => h) HB0.out.drew ⟨HP.out, rfl, rfl, rfl, rfl, rfl, rfl, rfl⟩ (fun w' l hl => ?_) HCLK.out (fun wv Bc Bk Bp Bl Bt Bn bc bk bt sc sk own q0 x20 hb hp => ?_) _ (by decide)
  · have h0 : w'.heap[X]? = some (.cells #[.int .i64 spin, .int .u64 (most : Int), .slice A n c] 35) := hl.ok 0 _ rfl
    exact ⟨cell_row h0 0, cell_row h0 1, cell_row h0 2⟩
  · have hp2 := hp.push (blockP wv.heap.size (.cells (wcells (.pointer (some ⟨Bc, 0, none⟩)) (.pointer (some ⟨Bk, 0, none⟩)) (.pointer (some ⟨Bp, 0, none⟩)) (.pointer (some ⟨Bl, 0, none⟩)) (.pointer (some ⟨Bt, 0, none⟩)) (.pointer (some ⟨Bn, 0, none⟩)) spin) 55)) (below1 wv _) (heap_alloc_new _ _) (fun k e => Nat.le_of_eq e.symm)
    have hb2 : Below X w (wv.alloc (.cells (wcells (.pointer (some ⟨Bc, 0, none⟩)) (.pointer (some ⟨Bk, 0, none⟩)) (.pointer (some ⟨Bp, 0, none⟩)) (.pointer (some ⟨Bl, 0, none⟩)) (.pointer (some ⟨Bt, 0, none⟩)) (.pointer (some ⟨Bn, 0, none⟩)) spin) 55)) := hb.alloc hp.size _
    have HP2 := Lib.hid hp2; have HB2 := Lib.hid hb2
    clear hp hb hp2 hb2 HP HCLK HB0
    unfold F7
    generalize hWC : wcells (.pointer (some ⟨Bc, 0, none⟩)) (.pointer (some ⟨Bk, 0, none⟩)) (.pointer (some ⟨Bp, 0, none⟩)) (.pointer (some ⟨Bl, 0, none⟩)) (.pointer (some ⟨Bt, 0, none⟩)) (.pointer (some ⟨Bn, 0, none⟩)) spin = WC at *
    have HWC := Lib.hid hWC
    clear hWC
    go_wp2_with fail
    go_ret2
    refine ⟨wv.heap.size, rfl, ⟨[blockP X (.cells #[.int .i64 spin, .int .u64 (most : Int), .slice A n c] 35), q0], Bc, Bk, Bp, Bl, Bt, Bn, bc, bk, bt, sc, sk, own, ?_⟩, by rw [HX.out]; exact HB2.out⟩
    rw [HX.out, HWC.out]
    exact HP2.out
end Go.Proofs.YtdfnocopakbhoaaGreatDoor.S12
namespace Go.Proofs.YtdfnocopakbhoaaGreatDoor.S12
open Go.Proofs.YtdfnocopakbhoaaGreatDoor Go.Proofs.YtdfnocopakbhoaaGreatDoor.S11
open Go.RowKit

def BoolE (e : Ending) : Prop := ∃ r : Bool, e = .returned (.bool r)
/-- What firing leaves: a clock and tables as they may be then. -/
def Fired (w w' : World) (base : Nat) (X : Wm) (N : Nat) : Prop := ∃ s D M, PW w' base { X with ks := s, D := D, tM := M } ∧ S10.Good M N ∧ Below base w w'
set_option maxRecDepth 100000 in
set_option maxHeartbeats 4000000 in
theorem fire_any {w : World} {base : Nat} {X : Wm} {N : Nat} (h : PW w base X) (g : S10.Good X.tM N) {b : Int} (hb : S10.InI b) (i : Int) :
    Calls Tryz.prog 18 #[Pw X.wB, .agg #[.int .i64 b, .int .i64 i]] w fun e w' => BoolE e ∧ Fired w w' base X N := by
  obtain ⟨ta, tf, ht, _⟩ := S10.timer_all X.tM hb i
  have hB : Below w.heap.size w (w.alloc (.cells #[.int .i64 b, .int .i64 i] 69)) := (Below.refl _ _).alloc (Nat.le_refl _) _
  have hnew := heap_alloc_new w (.cells #[.int .i64 b, .int .i64 i] 69)
  have p0 := cell_row hnew 0; have p1 := cell_row hnew 1
  have hpt : ∃ B0, B0 = w.heap.size := ⟨_, rfl⟩
  obtain ⟨B0, hB0⟩ := hpt
  have hbs := h.size
  rw [← hB0] at p0 p1
  simp only [List.getElem?_toArray, List.getElem?_cons_zero, List.getElem?_cons_succ] at p0 p1
  have hW0 := hnew
  rw [← hB0] at hW0
  have HB := Lib.hid hB; have HB0 := Lib.hid hB0; have HH := Lib.hid h; have HBS := Lib.hid hbs
  clear h hB hnew hB0 hbs
  go_enter Tryz.func18, Tryz.ntmps18
  go_upto_region 3 with (fail)
  rw [← HB0.out]
  generalize w.alloc (.cells #[.int .i64 b, .int .i64 i] 69) = wb at *
  have HF : Hid (∀ W, Below wb.heap.size wb W → PW W base X ∧ Below base w W) := Lib.hid (fun W q => ⟨HH.out.new (HB.out.trans (q.mono HB.out.size)), (HB.out.trans (q.mono HB.out.size)).mono HBS.out⟩)
  have HTI := Lib.hid (fun (W : World) (q : Below wb.heap.size wb W) => ht W X.tb X.tO X.ts X.tn (HF.out W q).1.tables)
  have HNOW := Lib.hid (fun (W : World) (q : Below wb.heap.size wb W) => S3.now_any (HF.out W q).1.clock)
  have HDUE := Lib.hid (due_int ta tf X.T)
  have HC : Hid (∀ W, Below wb.heap.size wb W → W.cell? ⟨X.wB, 1, none⟩ = some (Pw X.kB) ∧ W.cell? ⟨X.wB, 4, none⟩ = some X.ts ∧ W.cell? ⟨B0, 0, none⟩ = some (.int .i64 b) ∧ W.cell? ⟨B0, 1, none⟩ = some (.int .i64 i)) := Lib.hid (fun W q => ⟨(HF.out W q).1.c1, (HF.out W q).1.c4, bcell q p0, bcell q p1⟩)
  have HN0 : Hid (∀ k, Foot X k → k ≠ B0) := Lib.hid (fun k hk e => by have := HH.out.foot_lt hk; have := HB0.out; omega)
  have HW0 : Hid (wb.heap[B0]? = some (.cells #[.int .i64 b, .int .i64 i] 69)) := Lib.hid hW0
  clear HB HB0 HH HBS ht hW0
  obtain ⟨c1, c4, q0, q1⟩ := HC.out wb (Below.refl _ _)
  obtain ⟨cB, cM, L, n, kk, aa, was, is, kb, kB, T, most, ks, D, pB, pf, pn, pk, pp, lB, lk, tb, tO, ts, tn, tM, nb, nB, ns, nD, wB, sp⟩ := X
  dsimp only at *
  have R0 : Hid (Below wb.heap.size wb wb.drew) := Lib.hid ((Below.refl _ _).drew)
  have R00 : Hid (Below wb.heap.size wb (wb.alloc (.cells #[.int .u64 0, .int .u64 0] 138))) := Lib.hid ((Below.refl _ _).alloc (Nat.le_refl _) _)
  have R0a : Hid (Below wb.heap.size wb (wb.alloc (.cells #[.int .u64 0, .int .u64 0] 138)).drew) := Lib.hid R00.out.drew
  --WALK
  clear R00 R0a
  refine wp_mono (Q := S10.onlyN (fun _ a' w' => ∃ Bx : Nat, a' = { tmps := #[Pw wB, .agg #[.int .i64 b, .int .i64 i], undef, Pw B0, .bool false, Pw Bx, .int .u64 (T : Int), undef, Pw wB, .bool false, Pw wB, .pointer (some ⟨wB, 0, none⟩), .pointer (some ⟨wB, 4, none⟩), ts, .agg #[.int .i64 b, .int .i64 i], TmI ta tf, Pw wB, .pointer (some ⟨wB, 0, none⟩), .pointer (some ⟨wB, 1, none⟩), Pw kB, .int .u64 (T : Int), undef, undef, undef, undef, undef, undef, undef, undef, undef, undef, undef, undef, undef, undef, undef, undef, undef, undef, undef, undef, undef, undef, undef], defers := [] } ∧ Below wb.heap.size wb w' ∧ wb.heap.size ≤ Bx ∧ TmIn w' Bx ta tf)) ?_ ?_
  · refine wp_region_held_drew (S := fun w' => w'.cell? ⟨wB, 1, none⟩ = some (Pw kB) ∧ w'.cell? ⟨wB, 4, none⟩ = some ts ∧ w'.cell? ⟨B0, 0, none⟩ = some (.int .i64 b) ∧ w'.cell? ⟨B0, 1, none⟩ = some (.int .i64 i)) (by kernel_rfl) ?_ (fun hHeld => ?_)
    · exact HC.out _ R0.out
    refine wpAnyH_take (i := 0) (oi := ({ dst := some 10, op := Op.move (Operand.tmp 0), type := 28, pos := "worlds.go:85", after := #[], guard := none } : Oper)) (v := ?vax1) rfl (by kernel_rfl) (by kernel_rfl) (by kernel_rfl) (fun _ _ _ h => h) (Or.inl ⟨by rfl, fun w hSw => ?hyax1⟩) (by assumption) ?rax1
    case hyax1 => (try dsimp only at hSw); go_simp; (try with_reducible rfl)
    (try simp only [Act.put, List.setIfInBounds_toArray, List.set_cons_zero, List.set_cons_succ])
    refine wpAnyH_take (i := 1) (oi := ({ dst := some 11, op := Op.nilCheck (Operand.tmp 10), type := 0, pos := "worlds.go:85", after := #[{ on := 0, ground := Ground.data }], guard := none } : Oper)) (v := ?vax2) rfl (by kernel_rfl) (by kernel_rfl) (by kernel_rfl) (fun _ _ _ h => h) (Or.inl ⟨by rfl, fun w hSw => ?hyax2⟩) (by assumption) ?rax2
    case hyax2 => (try dsimp only at hSw); go_simp; (try with_reducible rfl)
    (try simp only [Act.put, List.setIfInBounds_toArray, List.set_cons_zero, List.set_cons_succ])
    refine wpAnyH_take (i := 2) (oi := ({ dst := some 12, op := Op.fieldAddr 47 (Operand.tmp 11) 4, type := 0, pos := "worlds.go:85", after := #[{ on := 1, ground := Ground.data }], guard := none } : Oper)) (v := ?vax3) rfl (by kernel_rfl) (by kernel_rfl) (by kernel_rfl) (fun _ _ _ h => h) (Or.inl ⟨by rfl, fun w hSw => ?hyax3⟩) (by assumption) ?rax3
    case hyax3 => (try dsimp only at hSw); go_simp; (try with_reducible rfl)
    (try simp only [Act.put, List.setIfInBounds_toArray, List.set_cons_zero, List.set_cons_succ])
    refine wpAnyH_take (i := 3) (oi := ({ dst := some 13, op := Op.load 43 (Operand.tmp 12), type := 43, pos := "worlds.go:85", after := #[{ on := 2, ground := Ground.data }], guard := none } : Oper)) (v := ?vax4) rfl (by kernel_rfl) (by kernel_rfl) (by kernel_rfl) (fun _ _ _ h => h) (Or.inl ⟨by rfl, fun w hSw => ?hyax4⟩) (by assumption) ?rax4
    case hyax4 => (try dsimp only at hSw); go_simp; (try with_reducible rfl)
    (try simp only [Act.put, List.setIfInBounds_toArray, List.set_cons_zero, List.set_cons_succ])
    refine wpAnyH_take (i := 4) (oi := ({ dst := some 14, op := Op.load 69 (Operand.tmp 3), type := 69, pos := "worlds.go:85", after := #[], guard := none } : Oper)) (v := ?vax5) rfl (by kernel_rfl) (by kernel_rfl) (by kernel_rfl) (fun _ _ _ h => h) (Or.inl ⟨by rfl, fun w hSw => ?hyax5⟩) (by assumption) ?rax5
    case hyax5 => (try dsimp only at hSw); go_simp; (try with_reducible rfl)
    (try simp only [Act.put, List.setIfInBounds_toArray, List.set_cons_zero, List.set_cons_succ])
    refine wpAnyH_take (i := 6) (oi := ({ dst := some 16, op := Op.move (Operand.tmp 0), type := 28, pos := "worlds.go:85", after := #[], guard := none } : Oper)) (v := ?vax6) rfl (by kernel_rfl) (by kernel_rfl) (by kernel_rfl) (fun _ _ _ h => h) (Or.inl ⟨by rfl, fun w hSw => ?hyax6⟩) (by assumption) ?rax6
    case hyax6 => (try dsimp only at hSw); go_simp; (try with_reducible rfl)
    (try simp only [Act.put, List.setIfInBounds_toArray, List.set_cons_zero, List.set_cons_succ])
    refine wpAnyH_take (i := 7) (oi := ({ dst := some 17, op := Op.nilCheck (Operand.tmp 16), type := 0, pos := "worlds.go:85", after := #[{ on := 6, ground := Ground.data }], guard := none } : Oper)) (v := ?vax7) rfl (by kernel_rfl) (by kernel_rfl) (by kernel_rfl) (fun _ _ _ h => h) (Or.inl ⟨by rfl, fun w hSw => ?hyax7⟩) (by assumption) ?rax7
    case hyax7 => (try dsimp only at hSw); go_simp; (try with_reducible rfl)
    (try simp only [Act.put, List.setIfInBounds_toArray, List.set_cons_zero, List.set_cons_succ])
    refine wpAnyH_take (i := 8) (oi := ({ dst := some 18, op := Op.fieldAddr 47 (Operand.tmp 17) 1, type := 0, pos := "worlds.go:85", after := #[{ on := 7, ground := Ground.data }], guard := none } : Oper)) (v := ?vax8) rfl (by kernel_rfl) (by kernel_rfl) (by kernel_rfl) (fun _ _ _ h => h) (Or.inl ⟨by rfl, fun w hSw => ?hyax8⟩) (by assumption) ?rax8
    case hyax8 => (try dsimp only at hSw); go_simp; (try with_reducible rfl)
    (try simp only [Act.put, List.setIfInBounds_toArray, List.set_cons_zero, List.set_cons_succ])
    refine wpAnyH_take (i := 9) (oi := ({ dst := some 19, op := Op.load 40 (Operand.tmp 18), type := 40, pos := "worlds.go:85", after := #[{ on := 8, ground := Ground.data }], guard := none } : Oper)) (v := ?vax9) rfl (by kernel_rfl) (by kernel_rfl) (by kernel_rfl) (fun _ _ _ h => h) (Or.inl ⟨by rfl, fun w hSw => ?hyax9⟩) (by assumption) ?rax9
    case hyax9 => (try dsimp only at hSw); go_simp; (try with_reducible rfl)
    (try simp only [Act.put, List.setIfInBounds_toArray, List.set_cons_zero, List.set_cons_succ])
    refine wpAnyH_ready (rs := [5, 11]) (by kernel_rfl) (by simp) ?_
    refine AllReadyH.cons (o := ({ dst := some 15, op := Op.call { callee := Callee.value (Operand.func 66), args := #[Operand.tmp 13, Operand.tmp 14], argTypes := #[43, 69] }, type := 138, pos := "worlds.go:85", after := #[{ on := 3, ground := Ground.data }, { on := 4, ground := Ground.data }], guard := none } : Oper)) rfl (fun Kq hKq => ?_) ?_
    · go_simp
      (refine (HTI.out _ R0.out).mono ?_; rintro e w1 ⟨rfl, hb1⟩)
      have R1 : Hid (Below wb.heap.size wb w1) := Lib.hid (R0.out.trans (hb1.mono R0.out.size))
      clear hb1
      refine hKq.out _ _ ?_ (fun hHeld => ?_)
      · exact HC.out _ R1.out
      clear hKq Kq
      (try simp only [Act.put, List.setIfInBounds_toArray, List.set_cons_zero, List.set_cons_succ])
      refine wpAnyH_ready (rs := [10, 11]) (by kernel_rfl) (by simp) ?_
      refine AllReadyH.cons (o := ({ dst := some 20, op := Op.call { callee := Callee.value (Operand.func 46), args := #[Operand.tmp 19], argTypes := #[40] }, type := 22, pos := "worlds.go:85", after := #[{ on := 9, ground := Ground.data }, { on := 5, ground := Ground.chain }], guard := none } : Oper)) rfl (fun Kq hKq => ?_) ?_
      · go_simp
        (refine (HNOW.out _ R1.out).mono ?_; rintro e w2 ⟨rfl, rfl⟩)
        refine hKq.out _ _ ?_ (fun hHeld => ?_)
        · exact HC.out _ R1.out
        clear hKq Kq
        (try simp only [Act.put, List.setIfInBounds_toArray, List.set_cons_zero, List.set_cons_succ])
        refine wpAnyH_ready (rs := [11]) (by kernel_rfl) (by simp) ?_
        refine AllReadyH.cons (o := ({ dst := some 5, op := Op.alloc 138, type := 0, pos := "worlds.go:85", after := #[], guard := none } : Oper)) rfl (fun Kq hKq => ?_) AllReadyH.nil
        go_simp
        have R3 : Hid (Below wb.heap.size wb (w1.alloc (.cells #[.int .u64 0, .int .u64 0] 138))) := Lib.hid ((R1.out.alloc R1.out.size _))
        have TZ3 : Hid (TmIn (w1.alloc (.cells #[.int .u64 0, .int .u64 0] 138)) w1.heap.size 0 0) := Lib.hid (TmIn.made w1 0 0)
        generalize w1.alloc (.cells #[.int .u64 0, .int .u64 0] 138) = w3 at *
        refine hKq.out _ _ ?_ (fun hHeld => ?_)
        · exact HC.out _ R3.out
        clear hKq Kq
        (try simp only [Act.put, List.setIfInBounds_toArray, List.set_cons_zero, List.set_cons_succ])
        refine wpAnyH_ready (rs := [12]) (by kernel_rfl) (by simp) ?_
        refine AllReadyH.cons (o := ({ dst := none, op := Op.store 138 (Operand.tmp 5) (Operand.tmp 15), type := 0, pos := "worlds.go:85", after := #[{ on := 11, ground := Ground.data }, { on := 5, ground := Ground.data }, { on := 10, ground := Ground.chain }, { on := 0, ground := Ground.phase }, { on := 1, ground := Ground.phase }, { on := 2, ground := Ground.phase }, { on := 3, ground := Ground.phase }, { on := 4, ground := Ground.phase }, { on := 5, ground := Ground.phase }, { on := 6, ground := Ground.textOnly Departure.lateStores }, { on := 7, ground := Ground.textOnly Departure.lateStores }, { on := 8, ground := Ground.textOnly Departure.lateStores }, { on := 9, ground := Ground.textOnly Departure.lateStores }, { on := 10, ground := Ground.textOnly Departure.lateStoresUnsure }, { on := 11, ground := Ground.phase }], guard := none } : Oper)) rfl (fun Kq hKq => ?_) AllReadyH.nil
        have z0 := TZ3.out.c0; have z1 := TZ3.out.c1; have f0 := TZ3.out.z0; have f1 := TZ3.out.z1
        go_simp
        have hle : wb.heap.size ≤ w1.heap.size := by have := R1.out.size; omega
        have R4 : Hid (Below wb.heap.size wb ((w3.setCell ⟨w1.heap.size, 0, none⟩ (.int .u64 ta)).setCell ⟨w1.heap.size, 1, none⟩ (.int .u64 tf))) := Lib.hid ((R3.out.setCell (p := ⟨w1.heap.size, 0, none⟩) hle _).setCell (p := ⟨w1.heap.size, 1, none⟩) hle _)
        have TZ4 : Hid (TmIn ((w3.setCell ⟨w1.heap.size, 0, none⟩ (.int .u64 ta)).setCell ⟨w1.heap.size, 1, none⟩ (.int .u64 tf)) w1.heap.size ta tf) := Lib.hid (TZ3.out.put ta tf)
        clear z0 z1 f0 f1
        generalize ((w3.setCell ⟨w1.heap.size, 0, none⟩ (.int .u64 ta)).setCell ⟨w1.heap.size, 1, none⟩ (.int .u64 tf)) = w4 at *
        refine hKq.out _ _ ?_ (fun hHeld => ?_)
        · exact HC.out _ R4.out
        clear hKq Kq
        (try simp only [Act.put, List.setIfInBounds_toArray, List.set_cons_zero, List.set_cons_succ])
        refine wpAnyH_take (i := 13) (oi := ({ dst := some 6, op := Op.assign (Operand.tmp 20), type := 22, pos := "worlds.go:85", after := #[{ on := 10, ground := Ground.data }, { on := 12, ground := Ground.chain }, { on := 0, ground := Ground.phase }, { on := 1, ground := Ground.phase }, { on := 2, ground := Ground.phase }, { on := 3, ground := Ground.phase }, { on := 4, ground := Ground.phase }, { on := 5, ground := Ground.phase }, { on := 6, ground := Ground.phase }, { on := 7, ground := Ground.phase }, { on := 8, ground := Ground.phase }, { on := 9, ground := Ground.phase }, { on := 10, ground := Ground.phase }, { on := 11, ground := Ground.phase }, { on := 12, ground := Ground.phase }], guard := none } : Oper)) (v := ?vax10) rfl (by kernel_rfl) (by kernel_rfl) (by kernel_rfl) (fun _ _ _ h => h) (Or.inl ⟨by rfl, fun w hSw => ?hyax10⟩) (by assumption) ?rax10
        case hyax10 => (try dsimp only at hSw); go_simp; (try with_reducible rfl)
        (try simp only [Act.put, List.setIfInBounds_toArray, List.set_cons_zero, List.set_cons_succ])
        refine wpAnyH_done (by kernel_rfl) ?_ _
        exact ⟨w1.heap.size, rfl, R4.out, hle, TZ4.out⟩
      refine AllReadyH.cons (o := ({ dst := some 5, op := Op.alloc 138, type := 0, pos := "worlds.go:85", after := #[], guard := none } : Oper)) rfl (fun Kq hKq => ?_) AllReadyH.nil
      go_simp
      have R2 : Hid (Below wb.heap.size wb (w1.alloc (.cells #[.int .u64 0, .int .u64 0] 138))) := Lib.hid ((R1.out.alloc R1.out.size _))
      have TZ2 : Hid (TmIn (w1.alloc (.cells #[.int .u64 0, .int .u64 0] 138)) w1.heap.size 0 0) := Lib.hid (TmIn.made w1 0 0)
      generalize w1.alloc (.cells #[.int .u64 0, .int .u64 0] 138) = w2 at *
      refine hKq.out _ _ ?_ (fun hHeld => ?_)
      · exact HC.out _ R2.out
      clear hKq Kq
      (try simp only [Act.put, List.setIfInBounds_toArray, List.set_cons_zero, List.set_cons_succ])
      refine wpAnyH_ready (rs := [10]) (by kernel_rfl) (by simp) ?_
      refine AllReadyH.cons (o := ({ dst := some 20, op := Op.call { callee := Callee.value (Operand.func 46), args := #[Operand.tmp 19], argTypes := #[40] }, type := 22, pos := "worlds.go:85", after := #[{ on := 9, ground := Ground.data }, { on := 5, ground := Ground.chain }], guard := none } : Oper)) rfl (fun Kq hKq => ?_) AllReadyH.nil
      go_simp
      (refine (HNOW.out _ R2.out).mono ?_; rintro e w3 ⟨rfl, rfl⟩)
      refine hKq.out _ _ ?_ (fun hHeld => ?_)
      · exact HC.out _ R2.out
      clear hKq Kq
      (try simp only [Act.put, List.setIfInBounds_toArray, List.set_cons_zero, List.set_cons_succ])
      refine wpAnyH_ready (rs := [12]) (by kernel_rfl) (by simp) ?_
      refine AllReadyH.cons (o := ({ dst := none, op := Op.store 138 (Operand.tmp 5) (Operand.tmp 15), type := 0, pos := "worlds.go:85", after := #[{ on := 11, ground := Ground.data }, { on := 5, ground := Ground.data }, { on := 10, ground := Ground.chain }, { on := 0, ground := Ground.phase }, { on := 1, ground := Ground.phase }, { on := 2, ground := Ground.phase }, { on := 3, ground := Ground.phase }, { on := 4, ground := Ground.phase }, { on := 5, ground := Ground.phase }, { on := 6, ground := Ground.textOnly Departure.lateStores }, { on := 7, ground := Ground.textOnly Departure.lateStores }, { on := 8, ground := Ground.textOnly Departure.lateStores }, { on := 9, ground := Ground.textOnly Departure.lateStores }, { on := 10, ground := Ground.textOnly Departure.lateStoresUnsure }, { on := 11, ground := Ground.phase }], guard := none } : Oper)) rfl (fun Kq hKq => ?_) AllReadyH.nil
      have z0 := TZ2.out.c0; have z1 := TZ2.out.c1; have f0 := TZ2.out.z0; have f1 := TZ2.out.z1
      go_simp
      have hle : wb.heap.size ≤ w1.heap.size := by have := R1.out.size; omega
      have R4 : Hid (Below wb.heap.size wb ((w2.setCell ⟨w1.heap.size, 0, none⟩ (.int .u64 ta)).setCell ⟨w1.heap.size, 1, none⟩ (.int .u64 tf))) := Lib.hid ((R2.out.setCell (p := ⟨w1.heap.size, 0, none⟩) hle _).setCell (p := ⟨w1.heap.size, 1, none⟩) hle _)
      have TZ4 : Hid (TmIn ((w2.setCell ⟨w1.heap.size, 0, none⟩ (.int .u64 ta)).setCell ⟨w1.heap.size, 1, none⟩ (.int .u64 tf)) w1.heap.size ta tf) := Lib.hid (TZ2.out.put ta tf)
      clear z0 z1 f0 f1
      generalize ((w2.setCell ⟨w1.heap.size, 0, none⟩ (.int .u64 ta)).setCell ⟨w1.heap.size, 1, none⟩ (.int .u64 tf)) = w4 at *
      refine hKq.out _ _ ?_ (fun hHeld => ?_)
      · exact HC.out _ R4.out
      clear hKq Kq
      (try simp only [Act.put, List.setIfInBounds_toArray, List.set_cons_zero, List.set_cons_succ])
      refine wpAnyH_take (i := 13) (oi := ({ dst := some 6, op := Op.assign (Operand.tmp 20), type := 22, pos := "worlds.go:85", after := #[{ on := 10, ground := Ground.data }, { on := 12, ground := Ground.chain }, { on := 0, ground := Ground.phase }, { on := 1, ground := Ground.phase }, { on := 2, ground := Ground.phase }, { on := 3, ground := Ground.phase }, { on := 4, ground := Ground.phase }, { on := 5, ground := Ground.phase }, { on := 6, ground := Ground.phase }, { on := 7, ground := Ground.phase }, { on := 8, ground := Ground.phase }, { on := 9, ground := Ground.phase }, { on := 10, ground := Ground.phase }, { on := 11, ground := Ground.phase }, { on := 12, ground := Ground.phase }], guard := none } : Oper)) (v := ?vax11) rfl (by kernel_rfl) (by kernel_rfl) (by kernel_rfl) (fun _ _ _ h => h) (Or.inl ⟨by rfl, fun w hSw => ?hyax11⟩) (by assumption) ?rax11
      case hyax11 => (try dsimp only at hSw); go_simp; (try with_reducible rfl)
      (try simp only [Act.put, List.setIfInBounds_toArray, List.set_cons_zero, List.set_cons_succ])
      refine wpAnyH_done (by kernel_rfl) ?_ _
      exact ⟨w1.heap.size, rfl, R4.out, hle, TZ4.out⟩
    refine AllReadyH.cons (o := ({ dst := some 5, op := Op.alloc 138, type := 0, pos := "worlds.go:85", after := #[], guard := none } : Oper)) rfl (fun Kq hKq => ?_) AllReadyH.nil
    go_simp
    have R1 : Hid (Below wb.heap.size wb ((wb.alloc (.cells #[.int .u64 0, .int .u64 0] 138)).drew)) := Lib.hid (((Below.refl _ _).alloc (Nat.le_refl _) _).drew)
    have TZ1 : Hid (TmIn ((wb.alloc (.cells #[.int .u64 0, .int .u64 0] 138)).drew) wb.heap.size 0 0) := Lib.hid (TmIn.made wb 0 0)
    generalize (wb.alloc (.cells #[.int .u64 0, .int .u64 0] 138)).drew = w1 at *
    refine hKq.out _ _ ?_ (fun hHeld => ?_)
    · exact HC.out _ R1.out
    clear hKq Kq
    (try simp only [Act.put, List.setIfInBounds_toArray, List.set_cons_zero, List.set_cons_succ])
    refine wpAnyH_ready (rs := [5]) (by kernel_rfl) (by simp) ?_
    refine AllReadyH.cons (o := ({ dst := some 15, op := Op.call { callee := Callee.value (Operand.func 66), args := #[Operand.tmp 13, Operand.tmp 14], argTypes := #[43, 69] }, type := 138, pos := "worlds.go:85", after := #[{ on := 3, ground := Ground.data }, { on := 4, ground := Ground.data }], guard := none } : Oper)) rfl (fun Kq hKq => ?_) AllReadyH.nil
    go_simp
    (refine (HTI.out _ R1.out).mono ?_; rintro e w2 ⟨rfl, hb2⟩)
    have R2 : Hid (Below wb.heap.size wb w2) := Lib.hid (R1.out.trans (hb2.mono R1.out.size))
    have TZ2 := Lib.hid (TZ1.out.new hb2)
    clear hb2
    refine hKq.out _ _ ?_ (fun hHeld => ?_)
    · exact HC.out _ R2.out
    clear hKq Kq
    (try simp only [Act.put, List.setIfInBounds_toArray, List.set_cons_zero, List.set_cons_succ])
    refine wpAnyH_ready (rs := [10]) (by kernel_rfl) (by simp) ?_
    refine AllReadyH.cons (o := ({ dst := some 20, op := Op.call { callee := Callee.value (Operand.func 46), args := #[Operand.tmp 19], argTypes := #[40] }, type := 22, pos := "worlds.go:85", after := #[{ on := 9, ground := Ground.data }, { on := 5, ground := Ground.chain }], guard := none } : Oper)) rfl (fun Kq hKq => ?_) AllReadyH.nil
    go_simp
    (refine (HNOW.out _ R2.out).mono ?_; rintro e w3 ⟨rfl, rfl⟩)
    refine hKq.out _ _ ?_ (fun hHeld => ?_)
    · exact HC.out _ R2.out
    clear hKq Kq
    (try simp only [Act.put, List.setIfInBounds_toArray, List.set_cons_zero, List.set_cons_succ])
    refine wpAnyH_ready (rs := [12]) (by kernel_rfl) (by simp) ?_
    refine AllReadyH.cons (o := ({ dst := none, op := Op.store 138 (Operand.tmp 5) (Operand.tmp 15), type := 0, pos := "worlds.go:85", after := #[{ on := 11, ground := Ground.data }, { on := 5, ground := Ground.data }, { on := 10, ground := Ground.chain }, { on := 0, ground := Ground.phase }, { on := 1, ground := Ground.phase }, { on := 2, ground := Ground.phase }, { on := 3, ground := Ground.phase }, { on := 4, ground := Ground.phase }, { on := 5, ground := Ground.phase }, { on := 6, ground := Ground.textOnly Departure.lateStores }, { on := 7, ground := Ground.textOnly Departure.lateStores }, { on := 8, ground := Ground.textOnly Departure.lateStores }, { on := 9, ground := Ground.textOnly Departure.lateStores }, { on := 10, ground := Ground.textOnly Departure.lateStoresUnsure }, { on := 11, ground := Ground.phase }], guard := none } : Oper)) rfl (fun Kq hKq => ?_) AllReadyH.nil
    have z0 := TZ2.out.c0; have z1 := TZ2.out.c1; have f0 := TZ2.out.z0; have f1 := TZ2.out.z1
    go_simp
    have hle : wb.heap.size ≤ wb.heap.size := by have := Nat.le_refl wb.heap.size; omega
    have R4 : Hid (Below wb.heap.size wb ((w2.setCell ⟨wb.heap.size, 0, none⟩ (.int .u64 ta)).setCell ⟨wb.heap.size, 1, none⟩ (.int .u64 tf))) := Lib.hid ((R2.out.setCell (p := ⟨wb.heap.size, 0, none⟩) hle _).setCell (p := ⟨wb.heap.size, 1, none⟩) hle _)
    have TZ4 : Hid (TmIn ((w2.setCell ⟨wb.heap.size, 0, none⟩ (.int .u64 ta)).setCell ⟨wb.heap.size, 1, none⟩ (.int .u64 tf)) wb.heap.size ta tf) := Lib.hid (TZ2.out.put ta tf)
    clear z0 z1 f0 f1
    generalize ((w2.setCell ⟨wb.heap.size, 0, none⟩ (.int .u64 ta)).setCell ⟨wb.heap.size, 1, none⟩ (.int .u64 tf)) = w4 at *
    refine hKq.out _ _ ?_ (fun hHeld => ?_)
    · exact HC.out _ R4.out
    clear hKq Kq
    (try simp only [Act.put, List.setIfInBounds_toArray, List.set_cons_zero, List.set_cons_succ])
    refine wpAnyH_take (i := 13) (oi := ({ dst := some 6, op := Op.assign (Operand.tmp 20), type := 22, pos := "worlds.go:85", after := #[{ on := 10, ground := Ground.data }, { on := 12, ground := Ground.chain }, { on := 0, ground := Ground.phase }, { on := 1, ground := Ground.phase }, { on := 2, ground := Ground.phase }, { on := 3, ground := Ground.phase }, { on := 4, ground := Ground.phase }, { on := 5, ground := Ground.phase }, { on := 6, ground := Ground.phase }, { on := 7, ground := Ground.phase }, { on := 8, ground := Ground.phase }, { on := 9, ground := Ground.phase }, { on := 10, ground := Ground.phase }, { on := 11, ground := Ground.phase }, { on := 12, ground := Ground.phase }], guard := none } : Oper)) (v := ?vax12) rfl (by kernel_rfl) (by kernel_rfl) (by kernel_rfl) (fun _ _ _ h => h) (Or.inl ⟨by rfl, fun w hSw => ?hyax12⟩) (by assumption) ?rax12
    case hyax12 => (try dsimp only at hSw); go_simp; (try with_reducible rfl)
    (try simp only [Act.put, List.setIfInBounds_toArray, List.set_cons_zero, List.set_cons_succ])
    refine wpAnyH_done (by kernel_rfl) ?_ _
    exact ⟨wb.heap.size, rfl, R4.out, hle, TZ4.out⟩
  · rintro e a2 w2 hq
    cases e <;> try exact hq.elim
    obtain ⟨Bx, rfl, hb2, hle, htz⟩ := hq
    (try dsimp only)
    have hP := (HF.out w2 hb2).1
    have TZ := Lib.hid htz
    have z0 := htz.c0; have z1 := htz.c1
    have HB2 := Lib.hid hb2; have HLE := Lib.hid hle
    clear htz hb2 hle
    by_cases hd : ta < (T : Int)
    · obtain ⟨ra, M', hg', hput, _⟩ := S10.putT_all g hb i ((S8.sat T (drawN D most) : Nat) : Int) (T : Int)
      rw [decide_eq_true hd] at HDUE
      have HFI := Lib.hid (fun W => fire_yes ta tf T (drawN D most) hd hP.clock.nums.t (drawN_le hP.clock.nums) W)
      go_upto_region 6 with (go_at_call 67; refine (HDUE.out _).mono ?_; rintro e w3 ⟨rfl, b3⟩)
      have HB3 := Lib.hid (HB2.out.trans (b3.mono HB2.out.size)).drew
      have HPD := Lib.hid (HF.out _ HB3.out).1
      have HBB := Lib.hid (HF.out _ HB3.out).2
      have TZ3 : Hid (TmIn w3.drew Bx ta tf) := Lib.hid (TZ.out.new b3.drew)
      have HQ0 : Hid (w3.drew.heap[B0]? = some (.cells #[.int .i64 b, .int .i64 i] 69)) := Lib.hid ((HB3.out.block B0 (Array.getElem?_eq_some_iff.1 HW0.out).1).trans HW0.out)
      have HFT : Hid (∀ k, Foot { cB := cB, cM := cM, L := L, n := n, k := kk, a := aa, was := was, is := is, kb := kb, kB := kB, T := T, most := most, ks := ks, D := D, pB := pB, pf := pf, pn := pn, pk := pk, pp := pp, lB := lB, lk := lk, tb := tb, tO := tO, ts := ts, tn := tn, tM := tM, nb := nb, nB := nB, ns := ns, nD := nD, wB := wB, sp := sp } k → k < wb.heap.size) := Lib.hid (fun k hk => (HF.out wb (Below.refl _ _)).1.foot_lt hk)
      have hkl : kB < wb.heap.size := HFT.out kB ⟨1, _, rfl, .inl rfl⟩
      have HNE : Hid (¬ Bx = kB ∧ ¬ B0 = kB ∧ B0 < w3.drew.heap.size) := Lib.hid ⟨by have := HLE.out; omega, by have := HN0.out kB ⟨1, _, rfl, .inl rfl⟩; exact fun e => this e.symm, (Array.getElem?_eq_some_iff.1 HQ0.out).1⟩
      have HNB : Hid (¬ B0 = Bx) := Lib.hid (by have := HLE.out; have := (Array.getElem?_eq_some_iff.1 HW0.out).1; omega)
      have HDR := Lib.hid (fun W (h : PW W base { cB := cB, cM := cM, L := L, n := n, k := kk, a := aa, was := was, is := is, kb := kb, kB := kB, T := T, most := most, ks := ks, D := D, pB := pB, pf := pf, pn := pn, pk := pk, pp := pp, lB := lB, lk := lk, tb := tb, tO := tO, ts := ts, tn := tn, tM := tM, nb := nb, nB := nB, ns := ns, nD := nD, wB := wB, sp := sp }) => draw_w h)
      have HBL : Hid (base ≤ Bx) := Lib.hid (by have := HLE.out; have := (HF.out wb (Below.refl _ _)).1.size; omega)
      have HPT := Lib.hid (fun (W : World) (s4 : Value) (hB : Below base w W) (h : PW W base { cB := cB, cM := cM, L := L, n := n, k := kk, a := aa, was := was, is := is, kb := kb, kB := kB, T := T, most := most, ks := s4, D := D.tail, pB := pB, pf := pf, pn := pn, pk := pk, pp := pp, lB := lB, lk := lk, tb := tb, tO := tO, ts := ts, tn := tn, tM := tM, nb := nb, nB := nB, ns := ns, nD := nD, wB := wB, sp := sp }) => (show Calls Tryz.prog 57 #[ts, .agg #[.int .i64 b, .int .i64 i], TmI ((S8.sat T (drawN D most) : Nat) : Int) (T : Int)] W fun e w' => e = .returned (.bool ra) ∧ Fired w w' base { cB := cB, cM := cM, L := L, n := n, k := kk, a := aa, was := was, is := is, kb := kb, kB := kB, T := T, most := most, ks := ks, D := D, pB := pB, pf := pf, pn := pn, pk := pk, pp := pp, lB := lB, lk := lk, tb := tb, tO := tO, ts := ts, tn := tn, tM := tM, nb := nb, nB := nB, ns := ns, nD := nD, wB := wB, sp := sp } N from by
        refine (hput W tb tO ts tn h.tables).mono ?_
        rintro e w' ⟨rfl, hs, ht⟩
        obtain ⟨hp, hb⟩ := t_tables (i := 4) h rfl hs ht (fun k r e => .inl ⟨r, e⟩)
        exact ⟨rfl, s4, D.tail, M', hp, hg', hB.trans hb⟩))
      have m1 := HPD.out.c1
      dsimp only at m1
      clear b3 hput hd hkl z0 z1 hP c1 c4 q0 q1
      refine wp_region_held_drew (S := fun w' => w'.cell? ⟨wB, 1, none⟩ = some (Pw kB)) (by kernel_rfl) ?_ (fun hHeld => ?_)
      · exact m1
      refine wpAnyH_take (i := 1) (oi := ({ dst := some 27, op := Op.move (Operand.tmp 6), type := 22, pos := "worlds.go:90", after := #[], guard := none } : Oper)) (v := ?vbx1) rfl (by kernel_rfl) (by kernel_rfl) (by kernel_rfl) (fun _ _ _ h => h) (Or.inl ⟨by rfl, fun w hSw => ?hybx1⟩) (by assumption) ?rbx1
      case hybx1 => (try dsimp only at hSw); go_simp; (try with_reducible rfl)
      (try simp only [Act.put, List.setIfInBounds_toArray, List.set_cons_zero, List.set_cons_succ])
      refine wpAnyH_take (i := 2) (oi := ({ dst := some 28, op := Op.move (Operand.tmp 0), type := 28, pos := "worlds.go:90", after := #[], guard := none } : Oper)) (v := ?vbx2) rfl (by kernel_rfl) (by kernel_rfl) (by kernel_rfl) (fun _ _ _ h => h) (Or.inl ⟨by rfl, fun w hSw => ?hybx2⟩) (by assumption) ?rbx2
      case hybx2 => (try dsimp only at hSw); go_simp; (try with_reducible rfl)
      (try simp only [Act.put, List.setIfInBounds_toArray, List.set_cons_zero, List.set_cons_succ])
      refine wpAnyH_take (i := 3) (oi := ({ dst := some 29, op := Op.nilCheck (Operand.tmp 28), type := 0, pos := "worlds.go:90", after := #[{ on := 2, ground := Ground.data }], guard := none } : Oper)) (v := ?vbx3) rfl (by kernel_rfl) (by kernel_rfl) (by kernel_rfl) (fun _ _ _ h => h) (Or.inl ⟨by rfl, fun w hSw => ?hybx3⟩) (by assumption) ?rbx3
      case hybx3 => (try dsimp only at hSw); go_simp; (try with_reducible rfl)
      (try simp only [Act.put, List.setIfInBounds_toArray, List.set_cons_zero, List.set_cons_succ])
      refine wpAnyH_take (i := 4) (oi := ({ dst := some 30, op := Op.fieldAddr 47 (Operand.tmp 29) 1, type := 0, pos := "worlds.go:90", after := #[{ on := 3, ground := Ground.data }], guard := none } : Oper)) (v := ?vbx4) rfl (by kernel_rfl) (by kernel_rfl) (by kernel_rfl) (fun _ _ _ h => h) (Or.inl ⟨by rfl, fun w hSw => ?hybx4⟩) (by assumption) ?rbx4
      case hybx4 => (try dsimp only at hSw); go_simp; (try with_reducible rfl)
      (try simp only [Act.put, List.setIfInBounds_toArray, List.set_cons_zero, List.set_cons_succ])
      refine wpAnyH_take (i := 5) (oi := ({ dst := some 31, op := Op.load 40 (Operand.tmp 30), type := 40, pos := "worlds.go:90", after := #[{ on := 4, ground := Ground.data }], guard := none } : Oper)) (v := ?vbx5) rfl (by kernel_rfl) (by kernel_rfl) (by kernel_rfl) (fun _ _ _ h => h) (Or.inl ⟨by rfl, fun w hSw => ?hybx5⟩) (by assumption) ?rbx5
      case hybx5 => (try dsimp only at hSw); go_simp; (try with_reducible rfl)
      (try simp only [Act.put, List.setIfInBounds_toArray, List.set_cons_zero, List.set_cons_succ])
      refine wpAnyH_ready (rs := [0, 6]) (by kernel_rfl) (by simp) ?_
      refine AllReadyH.cons (o := ({ dst := some 26, op := Op.load 138 (Operand.tmp 5), type := 138, pos := "worlds.go:90", after := #[], guard := none } : Oper)) rfl (fun Kq hKq => ?_) ?_
      · have z0 := TZ3.out.c0; have z1 := TZ3.out.c1
        go_simp
        clear z0 z1
        refine hKq.out _ _ ?_ (fun hHeld => ?_)
        · exact HPD.out.c1
        clear hKq Kq
        (try simp only [Act.put, List.setIfInBounds_toArray, List.set_cons_zero, List.set_cons_succ])
        refine wpAnyH_ready (rs := [6]) (by kernel_rfl) (by simp) ?_
        refine AllReadyH.cons (o := ({ dst := some 32, op := Op.call { callee := Callee.value (Operand.func 10), args := #[Operand.tmp 31], argTypes := #[40] }, type := 22, pos := "worlds.go:90", after := #[{ on := 5, ground := Ground.data }], guard := none } : Oper)) rfl (fun Kq hKq => ?_) AllReadyH.nil
        go_simp
        (refine (HDR.out _ HPD.out).mono ?_; rintro e w4 ⟨rfl, s4, hp4, ho4, hb4, ht4⟩)
        have P4 := Lib.hid hp4; have B4 := Lib.hid (HBB.out.trans hb4)
        have T4 : Hid (TmIn w4 Bx ta tf) := Lib.hid ((ht4.block Bx TZ3.out.lt (HNE.out.1)).trans TZ3.out)
        have Q4 : Hid (w4.heap[B0]? = some (.cells #[.int .i64 b, .int .i64 i] 69)) := Lib.hid ((ht4.block B0 HNE.out.2.2 (HNE.out.2.1)).trans HQ0.out)
        have H4 : Hid (w3.drew.heap.size ≤ w4.heap.size) := Lib.hid ht4.size
        have F4 : Hid (∀ k, Foot { cB := cB, cM := cM, L := L, n := n, k := kk, a := aa, was := was, is := is, kb := kb, kB := kB, T := T, most := most, ks := s4, D := D.tail, pB := pB, pf := pf, pn := pn, pk := pk, pp := pp, lB := lB, lk := lk, tb := tb, tO := tO, ts := ts, tn := tn, tM := tM, nb := nb, nB := nB, ns := ns, nD := nD, wB := wB, sp := sp } k → k < wb.heap.size) := Lib.hid (fun k hk => HFT.out k (foot_clock (X := { cB := cB, cM := cM, L := L, n := n, k := kk, a := aa, was := was, is := is, kb := kb, kB := kB, T := T, most := most, ks := ks, D := D, pB := pB, pf := pf, pn := pn, pk := pk, pp := pp, lB := lB, lk := lk, tb := tb, tO := tO, ts := ts, tn := tn, tM := tM, nb := nb, nB := nB, ns := ns, nD := nD, wB := wB, sp := sp }) ho4 hk))
        clear hp4 ho4 hb4 ht4
        refine hKq.out _ _ ?_ (fun hHeld => ?_)
        · exact P4.out.c1
        clear hKq Kq
        (try simp only [Act.put, List.setIfInBounds_toArray, List.set_cons_zero, List.set_cons_succ])
        refine wpAnyH_ready (rs := [7]) (by kernel_rfl) (by simp) ?_
        refine AllReadyH.cons (o := ({ dst := some 33, op := Op.call { callee := Callee.value (Operand.func 68), args := #[Operand.tmp 26, Operand.tmp 27, Operand.tmp 32], argTypes := #[138, 22, 22] }, type := 170, pos := "worlds.go:90", after := #[{ on := 0, ground := Ground.data }, { on := 1, ground := Ground.data }, { on := 6, ground := Ground.data }, { on := 6, ground := Ground.chain }], guard := none } : Oper)) rfl (fun Kq hKq => ?_) AllReadyH.nil
        go_simp
        (refine (HFI.out w4).mono ?_; rintro e w5 ⟨rfl, b5⟩)
        have P5 := Lib.hid (P4.out.new b5); have B5 := Lib.hid (B4.out.trans (b5.mono (PW.size P4.out)))
        have T5 := Lib.hid (T4.out.new b5)
        have Q5 : Hid (w5.heap[B0]? = some (.cells #[.int .i64 b, .int .i64 i] 69)) := Lib.hid ((b5.block B0 (Array.getElem?_eq_some_iff.1 Q4.out).1).trans Q4.out)
        clear b5
        refine hKq.out _ _ ?_ (fun hHeld => ?_)
        · exact P5.out.c1
        clear hKq Kq
        (try simp only [Act.put, List.setIfInBounds_toArray, List.set_cons_zero, List.set_cons_succ])
        refine wpAnyH_take (i := 8) (oi := ({ dst := some 25, op := Op.move (Operand.tmp 33), type := 170, pos := "worlds.go:90", after := #[{ on := 7, ground := Ground.data }], guard := none } : Oper)) (v := ?vbx6) rfl (by kernel_rfl) (by kernel_rfl) (by kernel_rfl) (fun _ _ _ h => h) (Or.inl ⟨by rfl, fun w hSw => ?hybx6⟩) (by assumption) ?rbx6
        case hybx6 => (try dsimp only at hSw); go_simp; (try with_reducible rfl)
        (try simp only [Act.put, List.setIfInBounds_toArray, List.set_cons_zero, List.set_cons_succ])
        refine wpAnyH_take (i := 9) (oi := ({ dst := some 34, op := Op.extract (Operand.tmp 25) 0, type := 138, pos := "worlds.go:90", after := #[{ on := 8, ground := Ground.data }], guard := none } : Oper)) (v := ?vbx7) rfl (by kernel_rfl) (by kernel_rfl) (by kernel_rfl) (fun _ _ _ h => h) (Or.inl ⟨by rfl, fun w hSw => ?hybx7⟩) (by assumption) ?rbx7
        case hybx7 => (try dsimp only at hSw); go_simp; (try with_reducible rfl)
        (try simp only [Act.put, List.setIfInBounds_toArray, List.set_cons_zero, List.set_cons_succ])
        refine wpAnyH_take (i := 10) (oi := ({ dst := some 35, op := Op.extract (Operand.tmp 25) 1, type := 4, pos := "worlds.go:90", after := #[{ on := 8, ground := Ground.data }, { on := 11, ground := Ground.gcOnly Departure.lateStores }], guard := none } : Oper)) (v := ?vbx8) rfl (by kernel_rfl) (by kernel_rfl) (by kernel_rfl) (fun _ _ _ h => h) (Or.inl ⟨by rfl, fun w hSw => ?hybx8⟩) (by assumption) ?rbx8
        case hybx8 => (try dsimp only at hSw); go_simp; (try with_reducible rfl)
        (try simp only [Act.put, List.setIfInBounds_toArray, List.set_cons_zero, List.set_cons_succ])
        refine wpAnyH_ready (rs := [11]) (by kernel_rfl) (by simp) ?_
        refine AllReadyH.cons (o := ({ dst := none, op := Op.store 138 (Operand.tmp 5) (Operand.tmp 34), type := 0, pos := "worlds.go:90", after := #[{ on := 9, ground := Ground.data }, { on := 7, ground := Ground.chain }, { on := 0, ground := Ground.phase }, { on := 1, ground := Ground.phase }, { on := 2, ground := Ground.phase }, { on := 3, ground := Ground.phase }, { on := 4, ground := Ground.phase }, { on := 5, ground := Ground.phase }, { on := 6, ground := Ground.phase }, { on := 7, ground := Ground.phase }, { on := 8, ground := Ground.phase }, { on := 9, ground := Ground.phase }, { on := 10, ground := Ground.textOnly Departure.lateStores }], guard := none } : Oper)) rfl (fun Kq hKq => ?_) AllReadyH.nil
        have z0 := T5.out.c0; have z1 := T5.out.c1; have f0 := T5.out.z0; have f1 := T5.out.z1
        go_simp
        have TT : Turns (fun k => k = Bx) w5 ((w5.setCell ⟨Bx, 0, none⟩ (.int .u64 ((S8.sat T (drawN D most) : Nat) : Int))).setCell ⟨Bx, 1, none⟩ (.int .u64 (T : Int))) := (((Turns.refl (fun k => k = Bx) w5).setCell ⟨Bx, 0, none⟩ _ rfl).setCell ⟨Bx, 1, none⟩ _ rfl)
        have P6 := Lib.hid (P5.out.keep TT (fun k hk e => by have := F4.out k hk; have := HLE.out; omega))
        have B6 : Hid (Below base w ((w5.setCell ⟨Bx, 0, none⟩ (.int .u64 ((S8.sat T (drawN D most) : Nat) : Int))).setCell ⟨Bx, 1, none⟩ (.int .u64 (T : Int)))) := Lib.hid ((B5.out.setCell (p := ⟨Bx, 0, none⟩) HBL.out _).setCell (p := ⟨Bx, 1, none⟩) HBL.out _)
        have T6 : Hid (TmIn ((w5.setCell ⟨Bx, 0, none⟩ (.int .u64 ((S8.sat T (drawN D most) : Nat) : Int))).setCell ⟨Bx, 1, none⟩ (.int .u64 (T : Int))) Bx ((S8.sat T (drawN D most) : Nat) : Int) (T : Int)) := Lib.hid (T5.out.put _ _)
        have Q6 : Hid (((w5.setCell ⟨Bx, 0, none⟩ (.int .u64 ((S8.sat T (drawN D most) : Nat) : Int))).setCell ⟨Bx, 1, none⟩ (.int .u64 (T : Int))).heap[B0]? = some (.cells #[.int .i64 b, .int .i64 i] 69)) := Lib.hid ((TT.block B0 (Array.getElem?_eq_some_iff.1 Q5.out).1 HNB.out).trans Q5.out)
        clear z0 z1 f0 f1 TT
        generalize ((w5.setCell ⟨Bx, 0, none⟩ (.int .u64 ((S8.sat T (drawN D most) : Nat) : Int))).setCell ⟨Bx, 1, none⟩ (.int .u64 (T : Int))) = w6 at *
        refine hKq.out _ _ ?_ (fun hHeld => ?_)
        · exact P6.out.c1
        clear hKq Kq
        (try simp only [Act.put, List.setIfInBounds_toArray, List.set_cons_zero, List.set_cons_succ])
        refine wpAnyH_take (i := 12) (oi := ({ dst := some 7, op := Op.assign (Operand.tmp 35), type := 4, pos := "worlds.go:90", after := #[{ on := 10, ground := Ground.data }, { on := 11, ground := Ground.chain }, { on := 0, ground := Ground.phase }, { on := 1, ground := Ground.phase }, { on := 2, ground := Ground.phase }, { on := 3, ground := Ground.phase }, { on := 4, ground := Ground.phase }, { on := 5, ground := Ground.phase }, { on := 6, ground := Ground.phase }, { on := 7, ground := Ground.phase }, { on := 8, ground := Ground.phase }, { on := 9, ground := Ground.phase }, { on := 10, ground := Ground.phase }, { on := 11, ground := Ground.phase }], guard := none } : Oper)) (v := ?vbx9) rfl (by kernel_rfl) (by kernel_rfl) (by kernel_rfl) (fun _ _ _ h => h) (Or.inl ⟨by rfl, fun w hSw => ?hybx9⟩) (by assumption) ?rbx9
        case hybx9 => (try dsimp only at hSw); go_simp; (try with_reducible rfl)
        (try simp only [Act.put, List.setIfInBounds_toArray, List.set_cons_zero, List.set_cons_succ])
        refine wpAnyH_done (by kernel_rfl) ?_ _
        clear hHeld
        go_upto_region 7 with (fail)
        have m4 := P6.out.c4; have y0 := cell_row Q6.out 0; have y1 := cell_row Q6.out 1; have t0 := T6.out.c0; have t1 := T6.out.c1
        dsimp only at m4
        simp only [List.getElem?_toArray, List.getElem?_cons_zero, List.getElem?_cons_succ] at y0 y1
        go_region_law (go_simp; refine (HPT.out _ s4 B6.out.drew P6.out.drew).mono ?_; rintro e w7 ⟨rfl, hf⟩)
        all_goals
          go_wp2_with fail
          go_ret
          exact ⟨⟨true, rfl⟩, hf⟩
      refine AllReadyH.cons (o := ({ dst := some 32, op := Op.call { callee := Callee.value (Operand.func 10), args := #[Operand.tmp 31], argTypes := #[40] }, type := 22, pos := "worlds.go:90", after := #[{ on := 5, ground := Ground.data }], guard := none } : Oper)) rfl (fun Kq hKq => ?_) AllReadyH.nil
      go_simp
      (refine (HDR.out _ HPD.out).mono ?_; rintro e w4 ⟨rfl, s4, hp4, ho4, hb4, ht4⟩)
      have P4 := Lib.hid hp4; have B4 := Lib.hid (HBB.out.trans hb4)
      have T4 : Hid (TmIn w4 Bx ta tf) := Lib.hid ((ht4.block Bx TZ3.out.lt (HNE.out.1)).trans TZ3.out)
      have Q4 : Hid (w4.heap[B0]? = some (.cells #[.int .i64 b, .int .i64 i] 69)) := Lib.hid ((ht4.block B0 HNE.out.2.2 (HNE.out.2.1)).trans HQ0.out)
      have H4 : Hid (w3.drew.heap.size ≤ w4.heap.size) := Lib.hid ht4.size
      have F4 : Hid (∀ k, Foot { cB := cB, cM := cM, L := L, n := n, k := kk, a := aa, was := was, is := is, kb := kb, kB := kB, T := T, most := most, ks := s4, D := D.tail, pB := pB, pf := pf, pn := pn, pk := pk, pp := pp, lB := lB, lk := lk, tb := tb, tO := tO, ts := ts, tn := tn, tM := tM, nb := nb, nB := nB, ns := ns, nD := nD, wB := wB, sp := sp } k → k < wb.heap.size) := Lib.hid (fun k hk => HFT.out k (foot_clock (X := { cB := cB, cM := cM, L := L, n := n, k := kk, a := aa, was := was, is := is, kb := kb, kB := kB, T := T, most := most, ks := ks, D := D, pB := pB, pf := pf, pn := pn, pk := pk, pp := pp, lB := lB, lk := lk, tb := tb, tO := tO, ts := ts, tn := tn, tM := tM, nb := nb, nB := nB, ns := ns, nD := nD, wB := wB, sp := sp }) ho4 hk))
      clear hp4 ho4 hb4 ht4
      refine hKq.out _ _ ?_ (fun hHeld => ?_)
      · exact P4.out.c1
      clear hKq Kq
      (try simp only [Act.put, List.setIfInBounds_toArray, List.set_cons_zero, List.set_cons_succ])
      refine wpAnyH_ready (rs := [0]) (by kernel_rfl) (by simp) ?_
      refine AllReadyH.cons (o := ({ dst := some 26, op := Op.load 138 (Operand.tmp 5), type := 138, pos := "worlds.go:90", after := #[], guard := none } : Oper)) rfl (fun Kq hKq => ?_) AllReadyH.nil
      have z0 := T4.out.c0; have z1 := T4.out.c1
      go_simp
      clear z0 z1
      refine hKq.out _ _ ?_ (fun hHeld => ?_)
      · exact P4.out.c1
      clear hKq Kq
      (try simp only [Act.put, List.setIfInBounds_toArray, List.set_cons_zero, List.set_cons_succ])
      refine wpAnyH_ready (rs := [7]) (by kernel_rfl) (by simp) ?_
      refine AllReadyH.cons (o := ({ dst := some 33, op := Op.call { callee := Callee.value (Operand.func 68), args := #[Operand.tmp 26, Operand.tmp 27, Operand.tmp 32], argTypes := #[138, 22, 22] }, type := 170, pos := "worlds.go:90", after := #[{ on := 0, ground := Ground.data }, { on := 1, ground := Ground.data }, { on := 6, ground := Ground.data }, { on := 6, ground := Ground.chain }], guard := none } : Oper)) rfl (fun Kq hKq => ?_) AllReadyH.nil
      go_simp
      (refine (HFI.out w4).mono ?_; rintro e w5 ⟨rfl, b5⟩)
      have P5 := Lib.hid (P4.out.new b5); have B5 := Lib.hid (B4.out.trans (b5.mono (PW.size P4.out)))
      have T5 := Lib.hid (T4.out.new b5)
      have Q5 : Hid (w5.heap[B0]? = some (.cells #[.int .i64 b, .int .i64 i] 69)) := Lib.hid ((b5.block B0 (Array.getElem?_eq_some_iff.1 Q4.out).1).trans Q4.out)
      clear b5
      refine hKq.out _ _ ?_ (fun hHeld => ?_)
      · exact P5.out.c1
      clear hKq Kq
      (try simp only [Act.put, List.setIfInBounds_toArray, List.set_cons_zero, List.set_cons_succ])
      refine wpAnyH_take (i := 8) (oi := ({ dst := some 25, op := Op.move (Operand.tmp 33), type := 170, pos := "worlds.go:90", after := #[{ on := 7, ground := Ground.data }], guard := none } : Oper)) (v := ?vbx10) rfl (by kernel_rfl) (by kernel_rfl) (by kernel_rfl) (fun _ _ _ h => h) (Or.inl ⟨by rfl, fun w hSw => ?hybx10⟩) (by assumption) ?rbx10
      case hybx10 => (try dsimp only at hSw); go_simp; (try with_reducible rfl)
      (try simp only [Act.put, List.setIfInBounds_toArray, List.set_cons_zero, List.set_cons_succ])
      refine wpAnyH_take (i := 9) (oi := ({ dst := some 34, op := Op.extract (Operand.tmp 25) 0, type := 138, pos := "worlds.go:90", after := #[{ on := 8, ground := Ground.data }], guard := none } : Oper)) (v := ?vbx11) rfl (by kernel_rfl) (by kernel_rfl) (by kernel_rfl) (fun _ _ _ h => h) (Or.inl ⟨by rfl, fun w hSw => ?hybx11⟩) (by assumption) ?rbx11
      case hybx11 => (try dsimp only at hSw); go_simp; (try with_reducible rfl)
      (try simp only [Act.put, List.setIfInBounds_toArray, List.set_cons_zero, List.set_cons_succ])
      refine wpAnyH_take (i := 10) (oi := ({ dst := some 35, op := Op.extract (Operand.tmp 25) 1, type := 4, pos := "worlds.go:90", after := #[{ on := 8, ground := Ground.data }, { on := 11, ground := Ground.gcOnly Departure.lateStores }], guard := none } : Oper)) (v := ?vbx12) rfl (by kernel_rfl) (by kernel_rfl) (by kernel_rfl) (fun _ _ _ h => h) (Or.inl ⟨by rfl, fun w hSw => ?hybx12⟩) (by assumption) ?rbx12
      case hybx12 => (try dsimp only at hSw); go_simp; (try with_reducible rfl)
      (try simp only [Act.put, List.setIfInBounds_toArray, List.set_cons_zero, List.set_cons_succ])
      refine wpAnyH_ready (rs := [11]) (by kernel_rfl) (by simp) ?_
      refine AllReadyH.cons (o := ({ dst := none, op := Op.store 138 (Operand.tmp 5) (Operand.tmp 34), type := 0, pos := "worlds.go:90", after := #[{ on := 9, ground := Ground.data }, { on := 7, ground := Ground.chain }, { on := 0, ground := Ground.phase }, { on := 1, ground := Ground.phase }, { on := 2, ground := Ground.phase }, { on := 3, ground := Ground.phase }, { on := 4, ground := Ground.phase }, { on := 5, ground := Ground.phase }, { on := 6, ground := Ground.phase }, { on := 7, ground := Ground.phase }, { on := 8, ground := Ground.phase }, { on := 9, ground := Ground.phase }, { on := 10, ground := Ground.textOnly Departure.lateStores }], guard := none } : Oper)) rfl (fun Kq hKq => ?_) AllReadyH.nil
      have z0 := T5.out.c0; have z1 := T5.out.c1; have f0 := T5.out.z0; have f1 := T5.out.z1
      go_simp
      have TT : Turns (fun k => k = Bx) w5 ((w5.setCell ⟨Bx, 0, none⟩ (.int .u64 ((S8.sat T (drawN D most) : Nat) : Int))).setCell ⟨Bx, 1, none⟩ (.int .u64 (T : Int))) := (((Turns.refl (fun k => k = Bx) w5).setCell ⟨Bx, 0, none⟩ _ rfl).setCell ⟨Bx, 1, none⟩ _ rfl)
      have P6 := Lib.hid (P5.out.keep TT (fun k hk e => by have := F4.out k hk; have := HLE.out; omega))
      have B6 : Hid (Below base w ((w5.setCell ⟨Bx, 0, none⟩ (.int .u64 ((S8.sat T (drawN D most) : Nat) : Int))).setCell ⟨Bx, 1, none⟩ (.int .u64 (T : Int)))) := Lib.hid ((B5.out.setCell (p := ⟨Bx, 0, none⟩) HBL.out _).setCell (p := ⟨Bx, 1, none⟩) HBL.out _)
      have T6 : Hid (TmIn ((w5.setCell ⟨Bx, 0, none⟩ (.int .u64 ((S8.sat T (drawN D most) : Nat) : Int))).setCell ⟨Bx, 1, none⟩ (.int .u64 (T : Int))) Bx ((S8.sat T (drawN D most) : Nat) : Int) (T : Int)) := Lib.hid (T5.out.put _ _)
      have Q6 : Hid (((w5.setCell ⟨Bx, 0, none⟩ (.int .u64 ((S8.sat T (drawN D most) : Nat) : Int))).setCell ⟨Bx, 1, none⟩ (.int .u64 (T : Int))).heap[B0]? = some (.cells #[.int .i64 b, .int .i64 i] 69)) := Lib.hid ((TT.block B0 (Array.getElem?_eq_some_iff.1 Q5.out).1 HNB.out).trans Q5.out)
      clear z0 z1 f0 f1 TT
      generalize ((w5.setCell ⟨Bx, 0, none⟩ (.int .u64 ((S8.sat T (drawN D most) : Nat) : Int))).setCell ⟨Bx, 1, none⟩ (.int .u64 (T : Int))) = w6 at *
      refine hKq.out _ _ ?_ (fun hHeld => ?_)
      · exact P6.out.c1
      clear hKq Kq
      (try simp only [Act.put, List.setIfInBounds_toArray, List.set_cons_zero, List.set_cons_succ])
      refine wpAnyH_take (i := 12) (oi := ({ dst := some 7, op := Op.assign (Operand.tmp 35), type := 4, pos := "worlds.go:90", after := #[{ on := 10, ground := Ground.data }, { on := 11, ground := Ground.chain }, { on := 0, ground := Ground.phase }, { on := 1, ground := Ground.phase }, { on := 2, ground := Ground.phase }, { on := 3, ground := Ground.phase }, { on := 4, ground := Ground.phase }, { on := 5, ground := Ground.phase }, { on := 6, ground := Ground.phase }, { on := 7, ground := Ground.phase }, { on := 8, ground := Ground.phase }, { on := 9, ground := Ground.phase }, { on := 10, ground := Ground.phase }, { on := 11, ground := Ground.phase }], guard := none } : Oper)) (v := ?vbx13) rfl (by kernel_rfl) (by kernel_rfl) (by kernel_rfl) (fun _ _ _ h => h) (Or.inl ⟨by rfl, fun w hSw => ?hybx13⟩) (by assumption) ?rbx13
      case hybx13 => (try dsimp only at hSw); go_simp; (try with_reducible rfl)
      (try simp only [Act.put, List.setIfInBounds_toArray, List.set_cons_zero, List.set_cons_succ])
      refine wpAnyH_done (by kernel_rfl) ?_ _
      clear hHeld
      go_upto_region 7 with (fail)
      have m4 := P6.out.c4; have y0 := cell_row Q6.out 0; have y1 := cell_row Q6.out 1; have t0 := T6.out.c0; have t1 := T6.out.c1
      dsimp only at m4
      simp only [List.getElem?_toArray, List.getElem?_cons_zero, List.getElem?_cons_succ] at y0 y1
      go_region_law (go_simp; refine (HPT.out _ s4 B6.out.drew P6.out.drew).mono ?_; rintro e w7 ⟨rfl, hf⟩)
      all_goals
        go_wp2_with fail
        go_ret
        exact ⟨⟨true, rfl⟩, hf⟩
    · rw [decide_eq_false hd] at HDUE
      go_wp2_with (go_at_call 67; refine (HDUE.out _).mono ?_; rintro e w3 ⟨rfl, b3⟩)
      go_ret
      exact ⟨⟨false, rfl⟩, ks, D, tM, (HF.out w3 (HB2.out.trans (b3.mono HB2.out.size))).1, g, (HF.out w3 (HB2.out.trans (b3.mono HB2.out.size))).2⟩
end Go.Proofs.YtdfnocopakbhoaaGreatDoor.S12
namespace Go.Proofs.YtdfnocopakbhoaaGreatDoor.S3
open Go.Proofs.YtdfnocopakbhoaaGreatDoor
open Go.RowKit

def OthC (w w' : World) (spin most : Int) (D : List Nat) (e : Ending) : Prop := ∃ A c, e = .returned (.agg #[.int .i64 spin, .int .u64 most, .slice A D.length c]) ∧ D.length ≤ c ∧ c ≤ 9223372036854775807 ∧ Row w' w.heap.size (.slice A D.length c) D ∧ Below w.heap.size w w'
set_option maxRecDepth 100000 in
set_option maxHeartbeats 4000000 in
theorem otherC_any {w : World} (spin most : Int) {b2 : Nat} {A : Option Addr} {D : List Nat} (c : Nat) (hr : Rd w b2 A D) (hb2 : b2 ≤ w.heap.size) (hl : D.length ≤ 1000000) :
    Calls Tryz.prog 8 #[.agg #[.int .i64 spin, .int .u64 most, .slice A D.length c]] w fun e w' => OthC w w' spin most D e := by
  have hbw : Below w.heap.size w ((w.alloc (.cells #[.int .i64 spin, .int .u64 most, .slice A D.length c] 25)).alloc (.cells #[.int .i64 0, .int .u64 0, .slice none 0 0] 35)) := ((Below.refl _ _).alloc (Nat.le_refl _) _).alloc (by simp) _
  have h0 := heap_alloc_new w (.cells #[.int .i64 spin, .int .u64 most, .slice A D.length c] 25)
  have h1 := heap_alloc_new (w.alloc (.cells #[.int .i64 spin, .int .u64 most, .slice A D.length c] 25)) (.cells #[.int .i64 0, .int .u64 0, .slice none 0 0] 35)
  have h0' : ((w.alloc (.cells #[.int .i64 spin, .int .u64 most, .slice A D.length c] 25)).alloc (.cells #[.int .i64 0, .int .u64 0, .slice none 0 0] 35)).heap[w.heap.size]? = _ := (((Below.refl _ (w.alloc (.cells #[.int .i64 spin, .int .u64 most, .slice A D.length c] 25))).alloc (Nat.le_refl _) (.cells #[.int .i64 0, .int .u64 0, .slice none 0 0] 35)).block w.heap.size (by simp)).trans h0
  obtain ⟨B0, hB0⟩ : ∃ B0, B0 = w.heap.size := ⟨_, rfl⟩
  have hs : (w.alloc (.cells #[.int .i64 spin, .int .u64 most, .slice A D.length c] 25)).heap.size = w.heap.size + 1 := by simp
  rw [hs] at h1
  have hlt : w.heap.size + 1 < ((w.alloc (.cells #[.int .i64 spin, .int .u64 most, .slice A D.length c] 25)).alloc (.cells #[.int .i64 0, .int .u64 0, .slice none 0 0] 35)).heap.size := (Array.getElem?_eq_some_iff.1 h1).1
  have HR := Lib.hid (hr.below hbw hb2); have HBW := Lib.hid hbw; have HL := Lib.hid hl; have HB2 := Lib.hid hb2
  have HLE : Hid (w.heap.size ≤ w.heap.size + 1) := Lib.hid (Nat.le_succ _)
  rw [← hB0] at h0' h1 hlt
  have H0 := Lib.hid h0'; have H1 := Lib.hid h1; have HLT := Lib.hid hlt; have HB0 := Lib.hid hB0
  have HFN : Hid (∀ (w4 : World) (A3 : Option Addr) (cap3 k : Nat), w.heap.size ≤ k → Row w4 k (.slice A3 D.length cap3) D → Below w.heap.size w w4 → OthC w w4 spin most D (.returned (.agg #[.int .i64 spin, .int .u64 most, .slice A3 D.length cap3]))) := Lib.hid (fun w4 A3 cap3 k hk hr4 hb4 => by
    obtain ⟨A', c', e1, e2, e3, e4, e5⟩ := hr4
    injection e1 with e1 _ e1'
    subst e1 e1'
    exact ⟨A3, cap3, rfl, e2, by unfold maxLen at e3; omega, ⟨A3, cap3, rfl, e2, e3, e4, fun ad ha => by
      obtain ⟨g, o, h1, h2, h3⟩ := e5 ad ha
      exact ⟨g, o, h1, by omega, h3⟩⟩, hb4⟩)
  have HSZ : Hid (w.heap.size ≤ ((w.alloc (.cells #[.int .i64 spin, .int .u64 most, .slice A D.length c] 25)).alloc (.cells #[.int .i64 0, .int .u64 0, .slice none 0 0] 35)).heap.size) := Lib.hid hbw.size
  clear hbw h0 h1 h0' hs hlt hr hb2 hl hB0
  go_enter Tryz.func8, Tryz.ntmps8
  go_upto_region 1 with (fail)
  have hw1 : ∃ B1, B1 = w.heap.size + 1 := ⟨_, rfl⟩
  obtain ⟨B1, hB1⟩ := hw1
  rw [← HB0.out]
  have H1' : Hid (((w.alloc (.cells #[.int .i64 spin, .int .u64 most, .slice A D.length c] 25)).alloc (.cells #[.int .i64 0, .int .u64 0, .slice none 0 0] 35)).heap[B1]? = some (.cells #[.int .i64 0, .int .u64 0, .slice none 0 0] 35)) := Lib.hid (by rw [hB1, ← HB0.out]; exact H1.out)
  have HLE2 : Hid (w.heap.size ≤ B1) := Lib.hid (by omega)
  have HLT2 : Hid (B1 < ((w.alloc (.cells #[.int .i64 spin, .int .u64 most, .slice A D.length c] 25)).alloc (.cells #[.int .i64 0, .int .u64 0, .slice none 0 0] 35)).heap.size) := Lib.hid (by rw [hB1, ← HB0.out]; exact HLT.out)
  rw [show B0 + 1 = B1 by rw [hB1, ← HB0.out]]
  have HNE : Hid (¬ B0 = B1) := Lib.hid (by rw [hB1, ← HB0.out]; omega)
  clear hB1 H1 HLT HLE HB0
  generalize (w.alloc (.cells #[.int .i64 spin, .int .u64 most, .slice A D.length c] 25)).alloc (.cells #[.int .i64 0, .int .u64 0, .slice none 0 0] 35) = w1 at *
  have HC0 : Hid (∀ W, Below w1.heap.size w1 W → W.cell? ⟨B0, 0, none⟩ = some (.int .i64 spin) ∧ W.cell? ⟨B0, 1, none⟩ = some (.int .u64 most) ∧ W.cell? ⟨B0, 2, none⟩ = some (.slice A D.length c)) := Lib.hid (fun W q => ⟨(q.cell (p := ⟨B0, 0, none⟩) (Array.getElem?_eq_some_iff.1 H0.out).1).trans (cell_row H0.out 0), (q.cell (p := ⟨B0, 1, none⟩) (Array.getElem?_eq_some_iff.1 H0.out).1).trans (cell_row H0.out 1), (q.cell (p := ⟨B0, 2, none⟩) (Array.getElem?_eq_some_iff.1 H0.out).1).trans (cell_row H0.out 2)⟩)
  have HZ : Hid (∀ W, Below w1.heap.size w1 W → W.cell? ⟨B1, 0, none⟩ = some (.int .i64 0) ∧ W.cell? ⟨B1, 1, none⟩ = some (.int .u64 0) ∧ W.cell? ⟨B1, 2, none⟩ = some (.slice none 0 0) ∧ W.frozen? ⟨B1, 0, none⟩ = false ∧ W.frozen? ⟨B1, 1, none⟩ = false ∧ W.frozen? ⟨B1, 2, none⟩ = false) := Lib.hid (fun W q => by
    have hb : W.heap[B1]? = _ := (q.block B1 HLT2.out).trans H1'.out
    exact ⟨cell_row hb 0, cell_row hb 1, cell_row hb 2, froz_row hb 0, froz_row hb 1, froz_row hb 2⟩)
  refine wp_region_held_drew (S := fun w' => w'.cell? ⟨B0, 0, none⟩ = some (.int .i64 spin) ∧ w'.cell? ⟨B0, 1, none⟩ = some (.int .u64 most) ∧ w'.cell? ⟨B0, 2, none⟩ = some (.slice A D.length c)) (by kernel_rfl) ?_ (fun hHeld => ?_)
  · exact HC0.out _ ((Below.refl _ _).drew)
  refine wpAnyH_take (i := 0) (oi := ({ dst := some 3, op := Op.fieldAddr 25 (Operand.tmp 1) 0, type := 0, pos := "help.go:26", after := #[], guard := none } : Oper)) (v := ?vax1) rfl (by kernel_rfl) (by kernel_rfl) (by kernel_rfl) (fun _ _ _ h => h) (Or.inl ⟨by rfl, fun w hSw => ?hyax1⟩) (by assumption) ?rax1
  case hyax1 => (try dsimp only at hSw); go_simp; (try with_reducible rfl)
  (try simp only [Act.put, List.setIfInBounds_toArray, List.set_cons_zero, List.set_cons_succ])
  refine wpAnyH_take (i := 1) (oi := ({ dst := some 4, op := Op.load 3 (Operand.tmp 3), type := 3, pos := "help.go:26", after := #[{ on := 0, ground := Ground.data }], guard := none } : Oper)) (v := ?vax2) rfl (by kernel_rfl) (by kernel_rfl) (by kernel_rfl) (fun _ _ _ h => h) (Or.inl ⟨by rfl, fun w hSw => ?hyax2⟩) (by assumption) ?rax2
  case hyax2 => (try dsimp only at hSw); go_simp; (try with_reducible rfl)
  (try simp only [Act.put, List.setIfInBounds_toArray, List.set_cons_zero, List.set_cons_succ])
  refine wpAnyH_take (i := 2) (oi := ({ dst := some 5, op := Op.fieldAddr 25 (Operand.tmp 1) 1, type := 0, pos := "help.go:26", after := #[], guard := none } : Oper)) (v := ?vax3) rfl (by kernel_rfl) (by kernel_rfl) (by kernel_rfl) (fun _ _ _ h => h) (Or.inl ⟨by rfl, fun w hSw => ?hyax3⟩) (by assumption) ?rax3
  case hyax3 => (try dsimp only at hSw); go_simp; (try with_reducible rfl)
  (try simp only [Act.put, List.setIfInBounds_toArray, List.set_cons_zero, List.set_cons_succ])
  refine wpAnyH_take (i := 3) (oi := ({ dst := some 6, op := Op.load 22 (Operand.tmp 5), type := 22, pos := "help.go:26", after := #[{ on := 2, ground := Ground.data }], guard := none } : Oper)) (v := ?vax4) rfl (by kernel_rfl) (by kernel_rfl) (by kernel_rfl) (fun _ _ _ h => h) (Or.inl ⟨by rfl, fun w hSw => ?hyax4⟩) (by assumption) ?rax4
  case hyax4 => (try dsimp only at hSw); go_simp; (try with_reducible rfl)
  (try simp only [Act.put, List.setIfInBounds_toArray, List.set_cons_zero, List.set_cons_succ])
  refine wpAnyH_take (i := 4) (oi := ({ dst := some 7, op := Op.fieldAddr 25 (Operand.tmp 1) 2, type := 0, pos := "help.go:26", after := #[], guard := none } : Oper)) (v := ?vax5) rfl (by kernel_rfl) (by kernel_rfl) (by kernel_rfl) (fun _ _ _ h => h) (Or.inl ⟨by rfl, fun w hSw => ?hyax5⟩) (by assumption) ?rax5
  case hyax5 => (try dsimp only at hSw); go_simp; (try with_reducible rfl)
  (try simp only [Act.put, List.setIfInBounds_toArray, List.set_cons_zero, List.set_cons_succ])
  refine wpAnyH_take (i := 5) (oi := ({ dst := some 8, op := Op.load 23 (Operand.tmp 7), type := 23, pos := "help.go:26", after := #[{ on := 4, ground := Ground.data }], guard := none } : Oper)) (v := ?vax6) rfl (by kernel_rfl) (by kernel_rfl) (by kernel_rfl) (fun _ _ _ h => h) (Or.inl ⟨by rfl, fun w hSw => ?hyax6⟩) (by assumption) ?rax6
  case hyax6 => (try dsimp only at hSw); go_simp; (try with_reducible rfl)
  (try simp only [Act.put, List.setIfInBounds_toArray, List.set_cons_zero, List.set_cons_succ])
  refine wpAnyH_ready (rs := [6]) (by kernel_rfl) (by simp) ?_
  refine AllReadyH.cons (o := ({ dst := some 9, op := Op.call { callee := Callee.builtin Builtin.append, args := #[Operand.const (Value.slice none 0 0), Operand.tmp 8], argTypes := #[23, 23] }, type := 23, pos := "help.go:26", after := #[{ on := 5, ground := Ground.data }], guard := none } : Oper)) rfl (fun Kq hKq => ?_) AllReadyH.nil
  refine step_append_row (base := w1.heap.size) (v := .slice none 0 0) (D := []) rfl _ _ rfl (by rfl) (row_nil _ _) (Nat.le_refl _) c (by rfl) (rfl : D.length = D.length) HR.out (by simp; exact HL.out) ?_; intro v3 w3 hr3 ht3 ho3; rw [List.nil_append] at hr3; obtain ⟨A3, cap3, hv3⟩ := hr3.shape; subst hv3
  have hb3 : Below w1.heap.size w1 w3 := (Below.refl _ w1).drew.trans (ht3.below (Nat.le_refl _) (fun k _ e => by cases e))
  have HB3 := Lib.hid hb3; have HR3 := Lib.hid hr3
  clear hb3 hr3 ht3 ho3
  refine hKq.out _ _ ?_ (fun hHeld => ?_)
  · exact HC0.out _ HB3.out
  clear hKq Kq
  (try simp only [Act.put, List.setIfInBounds_toArray, List.set_cons_zero, List.set_cons_succ])
  refine wpAnyH_take (i := 7) (oi := ({ dst := some 10, op := Op.build 35 #[(0, Operand.tmp 4), (1, Operand.tmp 6), (2, Operand.tmp 9)], type := 35, pos := "help.go:26", after := #[{ on := 1, ground := Ground.data }, { on := 3, ground := Ground.data }, { on := 6, ground := Ground.data }], guard := none } : Oper)) (v := ?vax7) rfl (by kernel_rfl) (by kernel_rfl) (by kernel_rfl) (fun _ _ _ h => h) (Or.inl ⟨by rfl, fun w hSw => ?hyax7⟩) (by assumption) ?rax7
  case hyax7 => (try dsimp only at hSw); go_simp; (try with_reducible rfl)
  (try simp only [Act.put, List.setIfInBounds_toArray, List.set_cons_zero, List.set_cons_succ])
  refine wpAnyH_ready (rs := [8]) (by kernel_rfl) (by simp) ?_
  refine AllReadyH.cons (o := ({ dst := none, op := Op.store 35 (Operand.tmp 2) (Operand.tmp 10), type := 0, pos := "help.go:26", after := #[{ on := 7, ground := Ground.data }, { on := 6, ground := Ground.chain }, { on := 0, ground := Ground.phase }, { on := 1, ground := Ground.phase }, { on := 2, ground := Ground.phase }, { on := 3, ground := Ground.phase }, { on := 4, ground := Ground.phase }, { on := 5, ground := Ground.phase }, { on := 6, ground := Ground.phase }, { on := 7, ground := Ground.phase }], guard := none } : Oper)) rfl (fun Kq hKq => ?_) AllReadyH.nil
  obtain ⟨z0, z1, z2, f0, f1, f2⟩ := HZ.out _ HB3.out
  go_simp
  have HB4 : Hid (Below w.heap.size w (((w3.setCell ⟨B1, 0, none⟩ (.int .i64 spin)).setCell ⟨B1, 1, none⟩ (.int .u64 most)).setCell ⟨B1, 2, none⟩ (.slice A3 D.length cap3))) := Lib.hid ((((HBW.out.trans (HB3.out.mono HBW.out.size)).setCell (p := ⟨B1, 0, none⟩) HLE2.out _).setCell (p := ⟨B1, 1, none⟩) HLE2.out _).setCell (p := ⟨B1, 2, none⟩) HLE2.out _)
  have HR4 : Hid (Row (((w3.setCell ⟨B1, 0, none⟩ (.int .i64 spin)).setCell ⟨B1, 1, none⟩ (.int .u64 most)).setCell ⟨B1, 2, none⟩ (.slice A3 D.length cap3)) w1.heap.size (.slice A3 D.length cap3) D) := Lib.hid (HR3.out.keep ((((Turns.refl (fun k => k = B1) w3).setCell ⟨B1, 0, none⟩ _ rfl).setCell ⟨B1, 1, none⟩ _ rfl).setCell ⟨B1, 2, none⟩ _ rfl) (fun g hg e => by have := (HR3.out.lt g hg).1; have := HLT2.out; omega))
  have hb3 : w3.heap[B1]? = some (.cells #[.int .i64 0, .int .u64 0, .slice none 0 0] 35 (0, 0)) := (HB3.out.block B1 HLT2.out).trans H1'.out
  have h4 : (((w3.setCell ⟨B1, 0, none⟩ (.int .i64 spin)).setCell ⟨B1, 1, none⟩ (.int .u64 most)).setCell ⟨B1, 2, none⟩ (.slice A3 D.length cap3)).heap[B1]? = some (.cells #[.int .i64 spin, .int .u64 most, .slice A3 D.length cap3] 35 (0, 0)) := by simp [World.setCell, Array.getElem?_modify, hb3]
  have h40 : (((w3.setCell ⟨B1, 0, none⟩ (.int .i64 spin)).setCell ⟨B1, 1, none⟩ (.int .u64 most)).setCell ⟨B1, 2, none⟩ (.slice A3 D.length cap3)).heap[B0]? = w3.heap[B0]? := ((((Turns.refl (fun k => k = B1) w3).setCell ⟨B1, 0, none⟩ _ rfl).setCell ⟨B1, 1, none⟩ _ rfl).setCell ⟨B1, 2, none⟩ _ rfl).block B0 (Nat.lt_of_lt_of_le (Array.getElem?_eq_some_iff.1 H0.out).1 HB3.out.size) HNE.out
  have h41 := h40.trans ((HB3.out.block B0 (Array.getElem?_eq_some_iff.1 H0.out).1).trans H0.out)
  have d0 := cell_row h4 0; have d1 := cell_row h4 1; have d2 := cell_row h4 2
  have S0 := cell_row h41 0; have S1 := cell_row h41 1; have S2 := cell_row h41 2
  clear h4 h40 h41 hb3
  simp only [List.getElem?_toArray, List.getElem?_cons_zero, List.getElem?_cons_succ] at d0 d1 d2 S0 S1 S2
  clear z0 z1 z2 f0 f1 f2
  generalize (((w3.setCell ⟨B1, 0, none⟩ (.int .i64 spin)).setCell ⟨B1, 1, none⟩ (.int .u64 most)).setCell ⟨B1, 2, none⟩ (.slice A3 D.length cap3)) = w4 at *
  refine hKq.out _ _ ?_ (fun hHeld => ?_)
  · exact ⟨S0, S1, S2⟩
  clear hKq Kq
  (try simp only [Act.put, List.setIfInBounds_toArray, List.set_cons_zero, List.set_cons_succ])
  refine wpAnyH_done (by kernel_rfl) ?_ _
  clear hHeld S0 S1 S2
  go_wp2_with fail
  exact bodyPost_ret (v := .agg #[.int .i64 spin, .int .u64 most, .slice A3 D.length cap3]) (by simp [results, Tryz.results8, go_sem, d0, d1, d2]) rfl (HFN.out _ _ _ _ HBW.out.size HR4.out HB4.out)
end Go.Proofs.YtdfnocopakbhoaaGreatDoor.S3
namespace Go.Proofs.YtdfnocopakbhoaaGreatDoor.S10
open Go.Proofs.YtdfnocopakbhoaaGreatDoor
open Go.RowKit

section
variable {M : Int → List Bk} {N : Nat}
theorem grow_all2 (g : Good M N) (hN : N ≤ 100000) {fr tg : Int} (hf : InI fr) (ht : InI tg) (now : Int) : ∃ (a : Bool) (M' : Int → List Bk), Good M' N ∧ (a = false → M' = M) ∧ (a = true → 2 ≤ tg ∧ tg ≤ 8) ∧
    (∀ W base own s n, n < 1000000 → St W base own s n M → Calls Tryz.prog 22 #[s, .int .i64 fr, .int .i64 tg, .int .u64 now] W fun e w' => e = .returned (.bool a) ∧ ∃ own', St w' base own' s (n + 1) M' ∧ Turns (Mine own) W w' ∧ Fresh own own' W) ∧
    (∀ W base own s, Rt W base own s M → Calls Tryz.prog 52 #[s, .int .i64 fr, .int .i64 tg, .int .u64 now] W fun e w' => e = .returned (.bool a) ∧ ∃ own', Rt w' base own' s M' ∧ Turns (Mine own) W w' ∧ Fresh own own' W) := by
  by_cases hno : M fr = [] ∨ tg ≤ fr ∨ 8 < tg ∨ M tg ≠ []
  · refine ⟨false, M, g, fun _ => rfl, (fun h => by cases h), fun W base own s n _ hs => ?_, fun W base own s hs => ?_⟩
    · obtain ⟨F, hr⟩ := hs.rs
      refine (grow_no hr hf ht now hno).mono ?_
      rintro e w' ⟨rfl, rfl⟩
      exact ⟨rfl, own, hs.mono (by omega), Turns.refl _ _, Fresh.refl _ _⟩
    · refine (rgrow_no hs now hno).mono ?_
      rintro e w' ⟨rfl, rfl⟩
      exact ⟨rfl, own, hs, Turns.refl _ _, Fresh.refl _ _⟩
  · have h0 : M fr ≠ [] := fun e => hno (.inl e)
    have h1 : fr < tg := by
      by_cases h : tg ≤ fr
      · exact absurd (.inr (.inl h)) hno
      · omega
    have h2 : tg ≤ 8 := by
      by_cases h : 8 < tg
      · exact absurd (.inr (.inr (.inl h))) hno
      · omega
    have h3 : M tg = [] := by
      by_cases h : M tg = []
      · exact h
      · exact absurd (.inr (.inr (.inr h))) hno
    have h4 : 2 ≤ fr := by
      by_cases h : fr < 2 ∨ 8 < fr
      · exact absurd (g.no fr h) h0
      · omega
    obtain ⟨h, hk, -⟩ := kits
    have K := hk tg.toNat (by omega) (by omega)
    have Kf := hk fr.toNat (by omega) (by omega)
    rw [Int.toNat_of_nonneg (by omega)] at K Kf
    have hlt : ∀ k, k < 4294967296 → h tg.toNat k < 2 ^ tg.toNat := K.lt (Nat.pow_pos (by omega))
    have hl := g.size fr h0
    have hfew := g.few fr
    have hle := g.len fr
    exact ⟨true, _, g.grow now h4 h1 h2 hlt, (fun h => by cases h), fun _ => ⟨by omega, h2⟩, fun W base own s n hn hs => grow_yes hs hf ht now h0 h1 h2 h3 K hle (g.keys fr) (by omega) hn, fun W base own s hs => rgrow_yes hs now h0 h1 h2 h3 K Kf hl (g.keys fr) (by omega)⟩
end
end Go.Proofs.YtdfnocopakbhoaaGreatDoor.S10
namespace Go.Proofs.YtdfnocopakbhoaaGreatDoor.S12
open Go.Proofs.YtdfnocopakbhoaaGreatDoor Go.Proofs.YtdfnocopakbhoaaGreatDoor.S11
open Go.RowKit

section
variable {w w' : World} {base : Nat} {l l' : List Part}
theorem Parts.left (h : Parts w base (l ++ l')) : Parts w base l := by
  have g : ∀ i p, l[i]? = some p → (l ++ l')[i]? = some p := fun i p hp => by
    rw [List.getElem?_append_left (List.getElem?_eq_some_iff.1 hp).1]; exact hp
  exact ⟨h.size, fun i p hp => h.ok i p (g i p hp), fun i j p q hp hq => h.apart i j p q (g i p hp) (g j q hq), fun i p hp => h.low i p (g i p hp)⟩
theorem Parts.right (h : Parts w base (l ++ l')) : Parts w base l' := by
  have g : ∀ i p, l'[i]? = some p → (l ++ l')[l.length + i]? = some p := fun i p hp => by
    rw [List.getElem?_append_right (by omega), Nat.add_sub_cancel_left]; exact hp
  exact ⟨h.size, fun i p hp => h.ok _ p (g i p hp), fun i j p q hp hq hij => h.apart _ _ p q (g i p hp) (g j q hq) (by omega), fun i p hp => h.low _ p (g i p hp)⟩
/-- Things that were made behind others stand beside them. -/
theorem Parts.join {b2 : Nat} (h : Parts w base l) (b : Below w.heap.size w w') (h2 : Parts w' b2 l') (hb : w.heap.size ≤ b2) : Parts w' base (l' ++ l) := by
  have h1 := h.new b
  have split : ∀ j r, (l' ++ l)[j]? = some r → (j < l'.length ∧ l'[j]? = some r) ∨ (l'.length ≤ j ∧ l[j - l'.length]? = some r) := fun j r hr => by
    by_cases hj : j < l'.length
    · rw [List.getElem?_append_left hj] at hr; exact .inl ⟨hj, hr⟩
    · rw [List.getElem?_append_right (by omega)] at hr; exact .inr ⟨by omega, hr⟩
  refine ⟨Nat.le_trans h.size b.size, fun j r hr => ?_, fun j k r s hr hs hjk x hx hy => ?_, fun j r hr x hx => ?_⟩
  · rcases split j r hr with ⟨_, hr⟩ | ⟨_, hr⟩
    · exact h2.ok _ _ hr
    · exact h1.ok _ _ hr
  · rcases split j r hr with ⟨_, h3⟩ | ⟨_, h3⟩ <;> rcases split k s hs with ⟨_, h4⟩ | ⟨_, h4⟩
    · exact h2.apart _ _ _ _ h3 h4 hjk x hx hy
    · have := h2.low _ _ h3 x hx; have := s.lt w (h.ok _ _ h4) x hy; omega
    · have := h2.low _ _ h4 x hy; have := r.lt w (h.ok _ _ h3) x hx; omega
    · exact h1.apart _ _ _ _ h3 h4 (by omega) x hx hy
  · rcases split j r hr with ⟨_, hr⟩ | ⟨_, hr⟩
    · have := h2.low _ _ hr x hx; have := h.size; omega
    · exact h1.low _ _ hr x hx
end
/-- The document's world: where its things stand, and what they say. -/
structure Rm where
  rb : Nat
  rB : Nat
  rs : Value
  L : S2.LL
  n : Nat
  k : Nat
  a : Nat
  was : Nat
  is : Nat
  kb : Nat
  kB : Nat
  T : Nat
  most : Nat
  ks : Value
  D : List Nat
  tb : Nat
  tO : Nat → Option S10.Role
  ts : Value
  M : Int → List S10.Bk
  pB : Nat
  lB : Nat
  nB : Nat
  wB : Nat
  sp : Int
noncomputable def Rm.cs (Y : Rm) : Array Value := wcells (Pw Y.rB) (Pw Y.kB) (Pw Y.pB) (Pw Y.lB) Y.ts (Pw Y.nB) Y.sp
noncomputable def Rm.parts (Y : Rm) : List Part := [rcellsP Y.rb Y.rB Y.rs Y.L Y.n Y.k Y.a Y.was Y.is, rclockP Y.kb Y.kB Y.T Y.most Y.ks Y.D, rtablesP Y.tb Y.tO Y.ts Y.M, blockP Y.pB (.cells Tryz.zeroCells112 112), blockP Y.lB (.cells Tryz.zeroCells117 117), blockP Y.nB (.cells #[.slice none 0 0] 121), blockP Y.wB (.cells Y.cs 55)]
theorem rsize : Tryz.zeroCells55.size = 71 := by kernel_rfl
theorem rc0 (a b c d e f : Value) (sp : Int) : (wcells a b c d e f sp)[0]? = some a := by
  simp [wcells, Array.getElem?_setIfInBounds, rsize]
theorem rc1 (a b c d e f : Value) (sp : Int) : (wcells a b c d e f sp)[1]? = some b := by
  simp [wcells, Array.getElem?_setIfInBounds, rsize]
theorem rc2 (a b c d e f : Value) (sp : Int) : (wcells a b c d e f sp)[2]? = some c := by
  simp [wcells, Array.getElem?_setIfInBounds, rsize]
theorem rc3 (a b c d e f : Value) (sp : Int) : (wcells a b c d e f sp)[3]? = some d := by
  simp [wcells, Array.getElem?_setIfInBounds, rsize]
theorem rc4 (a b c d e f : Value) (sp : Int) : (wcells a b c d e f sp)[4]? = some e := by
  simp [wcells, Array.getElem?_setIfInBounds, rsize]
theorem rc5 (a b c d e f : Value) (sp : Int) : (wcells a b c d e f sp)[5]? = some f := by
  simp [wcells, Array.getElem?_setIfInBounds, rsize]
theorem rc6 (a b c d e f : Value) (sp : Int) : (wcells a b c d e f sp)[6]? = some (.int .i64 sp) := by
  simp [wcells, Array.getElem?_setIfInBounds, rsize]
/-- Both. -/
def PairAt (w : World) (base : Nat) (E : List Part) (X : Wm) (Y : Rm) : Prop := Parts w base (X.parts ++ (Y.parts ++ E))
section
variable {w w' : World} {base : Nat} {E : List Part} {X : Wm} {Y : Rm}
theorem PairAt.pw (h : PairAt w base E X Y) : PW w base X := Parts.left h
theorem PairAt.new (h : PairAt w base E X Y) (b : Below w.heap.size w w') : PairAt w' base E X Y := Parts.new h b
theorem PairAt.drew (h : PairAt w base E X Y) : PairAt w.drew base E X Y := Parts.drew h
theorem PairAt.size (h : PairAt w base E X Y) : base ≤ w.heap.size := Parts.size h
theorem PairAt.rcells (h : PairAt w base E X Y) : S2.RefAt w Y.rb Y.rB Y.rs Y.L Y.n Y.k Y.a Y.was Y.is := h.ok 7 _ rfl
theorem PairAt.rclock (h : PairAt w base E X Y) : S3.RefAt w Y.kb Y.kB Y.T Y.most Y.ks Y.D := h.ok 8 _ rfl
theorem PairAt.rtables (h : PairAt w base E X Y) : S10.Rt w Y.tb Y.tO Y.ts Y.M := h.ok 9 _ rfl
theorem PairAt.rown (h : PairAt w base E X Y) : w.heap[Y.wB]? = some (.cells Y.cs 55) := h.ok 13 _ rfl
theorem PairAt.r0 (h : PairAt w base E X Y) : w.cell? ⟨Y.wB, 0, none⟩ = some (Pw Y.rB) := (cell_row h.rown 0).trans (rc0 _ _ _ _ _ _ _)
theorem PairAt.r1 (h : PairAt w base E X Y) : w.cell? ⟨Y.wB, 1, none⟩ = some (Pw Y.kB) := (cell_row h.rown 1).trans (rc1 _ _ _ _ _ _ _)
theorem PairAt.r4 (h : PairAt w base E X Y) : w.cell? ⟨Y.wB, 4, none⟩ = some Y.ts := (cell_row h.rown 4).trans (rc4 _ _ _ _ _ _ _)
end
/-- What a beginning pair is, by what counts. -/
structure Bg (w0 w : World) (base WB RB N cn tn : Nat) (M RM : Int → List S10.Bk) (E : List Part) (X : Wm) (Y : Rm) : Prop where
  pr : PairAt w base E X Y
  wB : X.wB = WB
  rB : Y.wB = RB
  xn : X.n ≤ cn
  yn : Y.n ≤ cn
  pn : X.pn = 0
  nD : X.nD = []
  xm : X.tM = M
  ym : Y.M = RM
  gd : S10.Good M N
  gr : S10.Good RM N
  tn : X.tn ≤ tn
  rb : Y.rb ≤ w.heap.size
  bl : Below base w0 w
def BgE (w0 w : World) (base WB RB N cn tn : Nat) (E : List Part) : Prop := ∃ M X Y, Bg w0 w base WB RB N cn tn M M E X Y
section
variable {w0 w w' : World} {base WB RB N cn tn : Nat} {M RM : Int → List S10.Bk} {E : List Part} {X : Wm} {Y : Rm}
theorem Bg.new (h : Bg w0 w base WB RB N cn tn M RM E X Y) (b : Below w.heap.size w w') : Bg w0 w' base WB RB N cn tn M RM E X Y :=
  ⟨h.pr.new b, h.wB, h.rB, h.xn, h.yn, h.pn, h.nD, h.xm, h.ym, h.gd, h.gr, h.tn, Nat.le_trans h.rb b.size, h.bl.trans (b.mono h.pr.size)⟩
theorem Bg.c (h : Bg w0 w base WB RB N cn tn M RM E X Y) : w.cell? ⟨WB, 0, none⟩ = some (Pw X.cB) ∧ w.cell? ⟨WB, 1, none⟩ = some (Pw X.kB) ∧ w.cell? ⟨WB, 4, none⟩ = some X.ts ∧ w.cell? ⟨RB, 0, none⟩ = some (Pw Y.rB) ∧ w.cell? ⟨RB, 1, none⟩ = some (Pw Y.kB) ∧ w.cell? ⟨RB, 4, none⟩ = some Y.ts := by
  obtain ⟨hp, rfl, rfl, _, _, _, _, _, _, _, _, _, _, _⟩ := h
  exact ⟨hp.pw.c0, hp.pw.c1, hp.pw.c4, hp.r0, hp.r1, hp.r4⟩
/-- A store by the program's. -/
theorem Bg.store (h : Bg w0 w base WB RB N cn tn M RM E X Y) {a v : Nat} (ha : a < 4294967296) (hv : v < 18446744073709551616) (hc : cn ≤ 1000000) :
    Calls Tryz.prog 103 #[Pw X.cB, .int .u32 a, .int .u64 v] w fun e w' => e = .returned (.int .u64 (S2.look X.L a : Nat)) ∧ ∃ X', Bg w0 w' base WB RB N (cn + 1) tn M RM E X' Y := by
  refine (S2.store_any w X.cB X.cM X.L X.n X.k X.a X.was X.is a v h.pr.pw.cells ha hv (by have := h.xn; omega)).mono ?_
  rintro e w' ⟨rfl, hl⟩
  obtain ⟨M', hp, hb⟩ := t_cells (i := 0) h.pr rfl hl
  exact ⟨rfl, { X with cM := M', L := _, n := X.n + 1, k := _, a := _, was := _, is := _ }, ⟨hp, h.wB, h.rB, by have := h.xn; show X.n + 1 ≤ cn + 1; omega, by have := h.yn; omega, h.pn, h.nD, h.xm, h.ym, h.gd, h.gr, h.tn, Nat.le_trans h.rb (by obtain ⟨_, _, _, t⟩ := hl; exact t.size), h.bl.trans hb⟩⟩
/-- A store by the document's. -/
theorem Bg.rstore (h : Bg w0 w base WB RB N cn tn M RM E X Y) {a v : Nat} (ha : a < 4294967296) (hv : v < 18446744073709551616) (hc : cn ≤ 1000000) :
    Calls Tryz.prog 87 #[Pw Y.rB, .int .u32 a, .int .u64 v] w fun e w' => e = .returned (.int .u64 (S2.look Y.L a : Nat)) ∧ ∃ Y', Bg w0 w' base WB RB N (cn + 1) tn M RM E X Y' := by
  refine (S2.rstore_any w Y.rb Y.rB Y.rs Y.L Y.n Y.k Y.a Y.was Y.is a v h.pr.rcells h.rb ha (by have := h.yn; omega) hv).mono ?_
  rintro e w' ⟨rfl, s', hc', ho, t⟩
  obtain ⟨hp, hb⟩ := t_rcells (i := 7) h.pr rfl hc' (fun g hg => .inr (ho g hg)) (t.mono (fun k _ e => .inl e))
  exact ⟨rfl, { Y with rs := s', L := _, n := Y.n + 1, k := _, a := _, was := _, is := _ }, hp, h.wB, h.rB, by have := h.xn; omega, by have := h.yn; show Y.n + 1 ≤ cn + 1; omega, h.pn, h.nD, h.xm, h.ym, h.gd, h.gr, h.tn, Nat.le_trans h.rb t.size, h.bl.trans hb⟩
theorem Bg.tick (h : Bg w0 w base WB RB N cn tn M RM E X Y) {n : Nat} (hn : n ≤ 18446744073709551615) :
    Calls Tryz.prog 19 #[Pw X.kB, .int .u64 n] w fun e w' => e = .returned (.tuple #[]) ∧ ∃ X', Bg w0 w' base WB RB N cn tn M RM E X' Y := by
  refine (S3.tick_any h.pr.pw.clock n hn).mono ?_
  rintro e w' ⟨rfl, hc, t⟩
  obtain ⟨hp, hb⟩ := t_clock (i := 1) h.pr rfl hc (fun g hg => .inl hg) (t.mono (fun k _ e => .inl e))
  exact ⟨rfl, { X with T := S3.sat X.T n }, hp, h.wB, h.rB, h.xn, h.yn, h.pn, h.nD, h.xm, h.ym, h.gd, h.gr, h.tn, Nat.le_trans h.rb t.size, h.bl.trans hb⟩
theorem Bg.rtick (h : Bg w0 w base WB RB N cn tn M RM E X Y) {n : Nat} (hn : n ≤ 18446744073709551615) :
    Calls Tryz.prog 107 #[Pw Y.kB, .int .u64 n] w fun e w' => e = .returned (.tuple #[]) ∧ ∃ Y', Bg w0 w' base WB RB N cn tn M RM E X Y' := by
  refine (S3.rtick_any h.pr.rclock n hn).mono ?_
  rintro e w' ⟨rfl, hc, t⟩
  obtain ⟨hp, hb⟩ := t_rclock (i := 8) h.pr rfl hc (fun g hg => .inl hg) (t.mono (fun k _ e => .inl e))
  exact ⟨rfl, { Y with T := S3.sat Y.T n }, hp, h.wB, h.rB, h.xn, h.yn, h.pn, h.nD, h.xm, h.ym, h.gd, h.gr, h.tn, Nat.le_trans h.rb t.size, h.bl.trans hb⟩
theorem Bg.mono (h : Bg w0 w base WB RB N cn tn M RM E X Y) {N' cn' tn' : Nat} (h1 : N ≤ N') (h2 : cn ≤ cn') (h3 : tn ≤ tn') : Bg w0 w base WB RB N' cn' tn' M RM E X Y :=
  ⟨h.pr, h.wB, h.rB, Nat.le_trans h.xn h2, Nat.le_trans h.yn h2, h.pn, h.nD, h.xm, h.ym, h.gd.mono h1, h.gr.mono h1, Nat.le_trans h.tn h3, h.rb, h.bl⟩
/-- The program's tables turn. -/
theorem Bg.tab (h : Bg w0 w base WB RB N cn tn M RM E X Y) {own' : Nat → Option S10.Role} {n' : Nat} {M' : Int → List S10.Bk} (hs : S10.St w' X.tb own' X.ts n' M') (t : S10.Turns (S10.Mine X.tO) w w') (f : S10.Fresh X.tO own' w) (g : S10.Good M' N) (hn : n' ≤ tn) :
    Bg w0 w' base WB RB N cn tn M' RM E { X with tO := own', tn := n', tM := M' } Y := by
  obtain ⟨hp, hb⟩ := t_tables (i := 4) h.pr rfl hs t f
  exact ⟨hp, h.wB, h.rB, h.xn, h.yn, h.pn, h.nD, rfl, h.ym, g, h.gr, hn, Nat.le_trans h.rb t.size, h.bl.trans hb⟩
theorem Bg.rtab (h : Bg w0 w base WB RB N cn tn M RM E X Y) {own' : Nat → Option S10.Role} {M' : Int → List S10.Bk} (hs : S10.Rt w' Y.tb own' Y.ts M') (t : S10.Turns (S10.Mine Y.tO) w w') (f : S10.Fresh Y.tO own' w) (g : S10.Good M' N) :
    Bg w0 w' base WB RB N cn tn M M' E X { Y with tO := own', M := M' } := by
  obtain ⟨hp, hb⟩ := t_rtables (i := 9) h.pr rfl hs t f
  exact ⟨hp, h.wB, h.rB, h.xn, h.yn, h.pn, h.nD, h.xm, rfl, h.gd, g, h.tn, Nat.le_trans h.rb t.size, h.bl.trans hb⟩
theorem Bg.st (h : Bg w0 w base WB RB N cn tn M RM E X Y) : S10.St w X.tb X.tO X.ts X.tn M := by have := h.pr.pw.tables; rw [h.xm] at this; exact this
theorem Bg.rt (h : Bg w0 w base WB RB N cn tn M RM E X Y) : S10.Rt w Y.tb Y.tO Y.ts RM := by have := h.pr.rtables; rw [h.ym] at this; exact this
/-- A thing more beside them; a thing less. -/
theorem Bg.push (h : Bg w0 w base WB RB N cn tn M RM E X Y) (q : Part) (b : Below w.heap.size w w') (hq : q.ok w') (hf : ∀ k, q.fp k → w.heap.size ≤ k) : Bg w0 w' base WB RB N cn tn M RM (E ++ [q]) X Y := by
  have hp := Parts.push h.pr q b hq hf
  rw [List.append_assoc, List.append_assoc] at hp
  exact ⟨hp, h.wB, h.rB, h.xn, h.yn, h.pn, h.nD, h.xm, h.ym, h.gd, h.gr, h.tn, Nat.le_trans h.rb b.size, h.bl.trans (b.mono h.pr.size)⟩
theorem Bg.drop (h : Bg w0 w base WB RB N cn tn M RM E X Y) : Bg w0 w base WB RB N cn tn M RM [] X Y := by
  have hp := h.pr
  unfold PairAt at hp
  rw [← List.append_assoc] at hp
  have hp2 := Parts.left hp
  refine ⟨?_, h.wB, h.rB, h.xn, h.yn, h.pn, h.nD, h.xm, h.ym, h.gd, h.gr, h.tn, h.rb, h.bl⟩
  unfold PairAt
  rw [List.append_nil]
  exact hp2
end
/-- Both grow, or none does. -/
theorem bg_grow {E : List Part} {M : Int → List S10.Bk} {N : Nat} (g : S10.Good M N) (hN : N ≤ 100000) {fr tg : Int} (hf : S10.InI fr) (ht : S10.InI tg) : ∃ (a : Bool) (M' : Int → List S10.Bk), (a = false → M' = M) ∧ (a = true → 2 ≤ tg ∧ tg ≤ 8) ∧
    (∀ w0 w base WB RB cn tn X Y, Bg w0 w base WB RB N cn tn M M E X Y → Calls Tryz.prog 52 #[Y.ts, .int .i64 fr, .int .i64 tg, .int .u64 0] w fun e w' => e = .returned (.bool a) ∧ ∃ Y', Bg w0 w' base WB RB N cn tn M M' E X Y' ∧ Y'.ts = Y.ts) ∧
    (∀ w0 w base WB RB cn tn X Y, tn < 1000 → Bg w0 w base WB RB N cn tn M M' E X Y → Calls Tryz.prog 22 #[X.ts, .int .i64 fr, .int .i64 tg, .int .u64 0] w fun e w' => e = .returned (.bool a) ∧ ∃ X', Bg w0 w' base WB RB N cn (tn + 1) M' M' E X' Y ∧ X'.ts = X.ts) := by
  obtain ⟨a, M', hg, h1, h2, h3, h4⟩ := S10.grow_all2 g hN hf ht 0
  refine ⟨a, M', h1, h2, fun w0 w base WB RB cn tn X Y h => ?_, fun w0 w base WB RB cn tn X Y htn h => ?_⟩
  · refine (h4 w _ _ _ h.rt).mono ?_
    rintro e w' ⟨rfl, own', hs, t, f⟩
    exact ⟨rfl, _, h.rtab hs t f hg, rfl⟩
  · refine (h3 w _ _ _ _ (by have := h.tn; omega) h.st).mono ?_
    rintro e w' ⟨rfl, own', hs, t, f⟩
    have h' := h.mono (Nat.le_refl N) (Nat.le_refl cn) (Nat.le_succ tn)
    exact ⟨rfl, _, h'.tab hs t f hg (by have := h.tn; omega), rfl⟩
/-- Both are put a queue, or none is. -/
theorem bg_put {E : List Part} {M : Int → List S10.Bk} {N : Nat} (g : S10.Good M N) {b : Int} (hb : S10.InI b) (i : Int) {D : List S10.Ent} (hk : S10.Keys D) (hD : D.length ≤ 60) : ∃ (a : Bool) (M' : Int → List S10.Bk),
    (∀ w0 w base WB RB cn tn X Y b0 A c, Bg w0 w base WB RB N cn tn M M E X Y → S10.Rd w b0 A (S10.flat D) → b0 ≤ w.heap.size → Calls Tryz.prog 23 #[X.ts, .agg #[.int .i64 b, .int .i64 i], .slice A D.length c] w fun e w' => e = .returned (.bool a) ∧ ∃ X', Bg w0 w' base WB RB (N + 60) cn tn M' M E X' Y ∧ X'.ts = X.ts) ∧
    (∀ w0 w base WB RB cn tn X Y b0 A c, Bg w0 w base WB RB (N + 60) cn tn M' M E X Y → S10.Rd w b0 A (S10.flat D) → b0 ≤ w.heap.size → Calls Tryz.prog 55 #[Y.ts, .agg #[.int .i64 b, .int .i64 i], .slice A D.length c] w fun e w' => e = .returned (.bool a) ∧ ∃ Y', Bg w0 w' base WB RB (N + 60) cn tn M' M' E X Y' ∧ Y'.ts = Y.ts) := by
  obtain ⟨a, M', hg, h3, h4⟩ := S10.put_all g hb i hk hD
  refine ⟨a, M', fun w0 w base WB RB cn tn X Y b0 A c h hr h0 => ?_, fun w0 w base WB RB cn tn X Y b0 A c h hr h0 => ?_⟩
  · refine (h3 w _ _ _ _ b0 A c h.st hr h0).mono ?_
    rintro e w' ⟨rfl, own', hs, t, f⟩
    exact ⟨rfl, _, (h.mono (Nat.le_add_right N 60) (Nat.le_refl _) (Nat.le_refl _)).tab hs t f hg h.tn, rfl⟩
  · refine (h4 w _ _ _ b0 A c h.rt hr h0).mono ?_
    rintro e w' ⟨rfl, own', hs, t, f⟩
    exact ⟨rfl, _, h.rtab hs t f hg, rfl⟩
theorem bg_putT {E : List Part} {M : Int → List S10.Bk} {N : Nat} (g : S10.Good M N) {b : Int} (hb : S10.InI b) (i ta tf : Int) : ∃ (a : Bool) (M' : Int → List S10.Bk),
    (∀ w0 w base WB RB cn tn X Y, Bg w0 w base WB RB N cn tn M M E X Y → Calls Tryz.prog 57 #[X.ts, .agg #[.int .i64 b, .int .i64 i], .agg #[.int .u64 ta, .int .u64 tf]] w fun e w' => e = .returned (.bool a) ∧ ∃ X', Bg w0 w' base WB RB N cn tn M' M E X' Y ∧ X'.ts = X.ts) ∧
    (∀ w0 w base WB RB cn tn X Y, Bg w0 w base WB RB N cn tn M' M E X Y → Calls Tryz.prog 58 #[Y.ts, .agg #[.int .i64 b, .int .i64 i], .agg #[.int .u64 ta, .int .u64 tf]] w fun e w' => e = .returned (.bool a) ∧ ∃ Y', Bg w0 w' base WB RB N cn tn M' M' E X Y' ∧ Y'.ts = Y.ts) := by
  obtain ⟨a, M', hg, h3, h4⟩ := S10.putT_all g hb i ta tf
  refine ⟨a, M', fun w0 w base WB RB cn tn X Y h => ?_, fun w0 w base WB RB cn tn X Y h => ?_⟩
  · refine (h3 w _ _ _ _ h.st).mono ?_
    rintro e w' ⟨rfl, hs, t⟩
    exact ⟨rfl, _, h.tab hs t (S10.Fresh.refl _ _) hg h.tn, rfl⟩
  · refine (h4 w _ _ _ h.rt).mono ?_
    rintro e w' ⟨rfl, hs, t⟩
    exact ⟨rfl, _, h.rtab hs t (S10.Fresh.refl _ _) hg, rfl⟩
end Go.Proofs.YtdfnocopakbhoaaGreatDoor.S12
namespace Go.Proofs.YtdfnocopakbhoaaGreatDoor.S12
open Go.Proofs.YtdfnocopakbhoaaGreatDoor Go.Proofs.YtdfnocopakbhoaaGreatDoor.S11
open Go.RowKit

section
variable {w0 w w' : World} {base WB RB N cn tn : Nat} {M RM : Int → List S10.Bk} {E : List Part} {X : Wm} {Y : Rm}
theorem Bg.wstore (h : Bg w0 w base WB RB N cn tn M RM E X Y) {a v : Nat} (ha : a < 4294967296) (hv : v < 18446744073709551616) (hc : cn ≤ 1000000) :
    Calls Tryz.prog 104 #[Pw RB, .int .u32 a, .int .u64 v] w fun e w' => e = .returned (.int .u64 (S2.look Y.L a : Nat)) ∧ ∃ Y', Bg w0 w' base WB RB N (cn + 1) tn M RM E X Y' := by
  have HS := Lib.hid (h.rstore ha hv hc)
  obtain ⟨_, _, _, c3, _, _⟩ := h.c
  clear h ha hv hc
  generalize (S2.look Y.L a : Nat) = z at *
  go_enter Tryz.func104, Tryz.ntmps104
  go_wp2_with (go_at_call 87; refine HS.out.mono ?_; rintro e w1 ⟨rfl, hy⟩)
  go_ret
  exact ⟨rfl, hy⟩
set_option maxRecDepth 100000 in
set_option maxHeartbeats 4000000 in
theorem pair_store (h : Bg w0 w base WB RB N cn tn M M E X Y) {a v : Nat} (ha : a < 4294967296) (hv : v < 18446744073709551616) (hc : cn ≤ 999999) :
    Calls Tryz.prog 53 #[.agg #[Pw WB, Pw RB], .agg #[.int .u32 a, .int .u64 v]] w fun e w' => e = .returned (.tuple #[]) ∧ BgE w0 w' base WB RB N (cn + 2) tn E := by
  have hb : Below w.heap.size w ((w.alloc (.cells #[Pw WB, Pw RB] 38)).alloc (.cells #[.int .u32 (a : Int), .int .u64 (v : Int)] 67)) := ((Below.refl _ _).alloc (Nat.le_refl _) _).alloc (by simp) _
  have h0 : ((w.alloc (.cells #[Pw WB, Pw RB] 38)).alloc (.cells #[.int .u32 (a : Int), .int .u64 (v : Int)] 67)).heap[w.heap.size]? = some (.cells #[Pw WB, Pw RB] 38 (0, 0)) := (((Below.refl _ (w.alloc (.cells #[Pw WB, Pw RB] 38))).alloc (Nat.le_refl _) _).block w.heap.size (by simp)).trans (heap_alloc_new _ _)
  have h1 : ((w.alloc (.cells #[Pw WB, Pw RB] 38)).alloc (.cells #[.int .u32 (a : Int), .int .u64 (v : Int)] 67)).heap[w.heap.size + 1]? = some (.cells #[.int .u32 (a : Int), .int .u64 (v : Int)] 67 (0, 0)) := by
    have := heap_alloc_new (w.alloc (.cells #[Pw WB, Pw RB] 38)) (.cells #[.int .u32 (a : Int), .int .u64 (v : Int)] 67)
    rwa [show (w.alloc (.cells #[Pw WB, Pw RB] 38)).heap.size = w.heap.size + 1 by simp] at this
  have hn := h.new hb
  have HLT : Hid (∀ k, Foot X k → k < w.heap.size) := Lib.hid (fun k hk => h.pr.pw.foot_lt hk)
  obtain ⟨B0, hB0⟩ : ∃ B0, B0 = w.heap.size := ⟨_, rfl⟩
  obtain ⟨B1, hB1⟩ : ∃ B1, B1 = w.heap.size + 1 := ⟨_, rfl⟩
  rw [← hB0] at h0
  rw [← hB1] at h1
  have hcx := hn.xn
  have c0 := cell_row h0 0; have c1 := cell_row h0 1; have d0 := cell_row h1 0; have d1 := cell_row h1 1
  simp only [List.getElem?_toArray, List.getElem?_cons_zero, List.getElem?_cons_succ] at c0 c1 d0 d1
  have hst := hn.store ha hv (by omega)
  obtain ⟨k0, _, _, _, _, _⟩ := hn.c
  have HST : Hid (∀ W, W = ((w.alloc (.cells #[Pw WB, Pw RB] 38)).alloc (.cells #[.int .u32 (a : Int), .int .u64 (v : Int)] 67)).drew → Calls Tryz.prog 103 #[Pw X.cB, .int .u32 a, .int .u64 v] W fun e w' => e = .returned (.int .u64 (S2.look X.L a : Nat)) ∧ ∃ X', Bg w0 w' base WB RB N (cn + 1) tn M M E X' Y ∧ w'.heap[B0]? = some (.cells #[Pw WB, Pw RB] 38 (0, 0)) ∧ w'.heap[B1]? = some (.cells #[.int .u32 (a : Int), .int .u64 (v : Int)] 67 (0, 0)) ∧ w'.cell? ⟨WB, 0, none⟩ = some (Pw X.cB)) := Lib.hid (fun W e => by
    subst e
    have hn2 := hn.new ((Below.refl _ _).drew)
    refine (S2.store_any _ X.cB X.cM X.L X.n X.k X.a X.was X.is a v hn2.pr.pw.cells ha hv (by omega)).mono ?_
    rintro e w' ⟨rfl, hl⟩
    obtain ⟨M', hp, hb2⟩ := t_cells (i := 0) hn2.pr rfl hl
    obtain ⟨_, _, _, t⟩ := hl
    have nf : ∀ k, w.heap.size ≤ k → ¬ S2.Fp X.cB X.cM k := fun k hk hf => by
      have := HLT.out k ⟨0, _, rfl, hf⟩; omega
    exact ⟨rfl, { X with cM := M', L := _, n := X.n + 1, k := _, a := _, was := _, is := _ }, ⟨hp, hn2.wB, hn2.rB, by show X.n + 1 ≤ cn + 1; omega, by have := hn2.yn; omega, hn2.pn, hn2.nD, hn2.xm, hn2.ym, hn2.gd, hn2.gr, hn2.tn, Nat.le_trans hn2.rb t.size, hn2.bl.trans hb2⟩,
      (t.block B0 (Array.getElem?_eq_some_iff.1 h0).1 (nf _ (by omega))).trans h0, (t.block B1 (Array.getElem?_eq_some_iff.1 h1).1 (nf _ (by omega))).trans h1, by
        have := (show PairAt w' base E { X with cM := M', L := S2.putL X.L a (S2.bring a v), n := X.n + 1, k := 2, a := a, was := S2.look X.L a, is := S2.bring a v } Y from hp).pw.c0
        rw [← hn2.wB]; exact this⟩)
  have HHB : Hid (Below w.heap.size w w) := Lib.hid (Below.refl _ _)
  clear hst hn hb h0 h1 h HLT hcx
  go_enter Tryz.func53, Tryz.ntmps53
  go_upto_region 1 with (fail)
  rw [← hB0, show B0 + 1 = B1 by omega]
  have HQ := Lib.hid (And.intro ha (And.intro hv hc))
  clear hB0 hB1 HHB ha hv hc
  generalize (w.alloc (.cells #[Pw WB, Pw RB] 38)).alloc (.cells #[.int .u32 (a : Int), .int .u64 (v : Int)] 67) = w1 at *
  refine wp_region_held_drew (S := fun w' => w'.cell? ⟨B0, 0, none⟩ = some (Pw WB) ∧ w'.cell? ⟨B1, 0, none⟩ = some (.int .u32 (a : Int)) ∧ w'.cell? ⟨B1, 1, none⟩ = some (.int .u64 (v : Int)) ∧ w'.cell? ⟨WB, 0, none⟩ = some (Pw X.cB)) (by kernel_rfl) ?_ (fun hHeld => ?_)
  · exact ⟨c0, d0, d1, k0⟩
  refine wpAnyH_take (i := 0) (oi := ({ dst := some 4, op := Op.fieldAddr 38 (Operand.tmp 2) 0, type := 0, pos := "help.go:86", after := #[], guard := none } : Oper)) (v := ?vax1) rfl (by kernel_rfl) (by kernel_rfl) (by kernel_rfl) (fun _ _ _ h => h) (Or.inl ⟨by rfl, fun w hSw => ?hyax1⟩) (by assumption) ?rax1
  case hyax1 => (try dsimp only at hSw); go_simp; (try with_reducible rfl)
  (try simp only [Act.put, List.setIfInBounds_toArray, List.set_cons_zero, List.set_cons_succ])
  refine wpAnyH_take (i := 1) (oi := ({ dst := some 5, op := Op.load 28 (Operand.tmp 4), type := 28, pos := "help.go:86", after := #[{ on := 0, ground := Ground.data }], guard := none } : Oper)) (v := ?vax2) rfl (by kernel_rfl) (by kernel_rfl) (by kernel_rfl) (fun _ _ _ h => h) (Or.inl ⟨by rfl, fun w hSw => ?hyax2⟩) (by assumption) ?rax2
  case hyax2 => (try dsimp only at hSw); go_simp; (try with_reducible rfl)
  (try simp only [Act.put, List.setIfInBounds_toArray, List.set_cons_zero, List.set_cons_succ])
  refine wpAnyH_take (i := 2) (oi := ({ dst := some 6, op := Op.nilCheck (Operand.tmp 5), type := 0, pos := "help.go:86", after := #[{ on := 1, ground := Ground.data }], guard := none } : Oper)) (v := ?vax3) rfl (by kernel_rfl) (by kernel_rfl) (by kernel_rfl) (fun _ _ _ h => h) (Or.inl ⟨by rfl, fun w hSw => ?hyax3⟩) (by assumption) ?rax3
  case hyax3 => (try dsimp only at hSw); go_simp; (try with_reducible rfl)
  (try simp only [Act.put, List.setIfInBounds_toArray, List.set_cons_zero, List.set_cons_succ])
  refine wpAnyH_take (i := 3) (oi := ({ dst := some 7, op := Op.fieldAddr 47 (Operand.tmp 6) 0, type := 0, pos := "help.go:86", after := #[{ on := 2, ground := Ground.data }], guard := none } : Oper)) (v := ?vax4) rfl (by kernel_rfl) (by kernel_rfl) (by kernel_rfl) (fun _ _ _ h => h) (Or.inl ⟨by rfl, fun w hSw => ?hyax4⟩) (by assumption) ?rax4
  case hyax4 => (try dsimp only at hSw); go_simp; (try with_reducible rfl)
  (try simp only [Act.put, List.setIfInBounds_toArray, List.set_cons_zero, List.set_cons_succ])
  refine wpAnyH_take (i := 4) (oi := ({ dst := some 8, op := Op.load 39 (Operand.tmp 7), type := 39, pos := "help.go:86", after := #[{ on := 3, ground := Ground.data }], guard := none } : Oper)) (v := ?vax5) rfl (by kernel_rfl) (by kernel_rfl) (by kernel_rfl) (fun _ _ _ h => h) (Or.inl ⟨by rfl, fun w hSw => ?hyax5⟩) (by assumption) ?rax5
  case hyax5 => (try dsimp only at hSw); go_simp; (try with_reducible rfl)
  (try simp only [Act.put, List.setIfInBounds_toArray, List.set_cons_zero, List.set_cons_succ])
  refine wpAnyH_take (i := 5) (oi := ({ dst := some 9, op := Op.fieldAddr 67 (Operand.tmp 3) 0, type := 0, pos := "help.go:86", after := #[], guard := none } : Oper)) (v := ?vax6) rfl (by kernel_rfl) (by kernel_rfl) (by kernel_rfl) (fun _ _ _ h => h) (Or.inl ⟨by rfl, fun w hSw => ?hyax6⟩) (by assumption) ?rax6
  case hyax6 => (try dsimp only at hSw); go_simp; (try with_reducible rfl)
  (try simp only [Act.put, List.setIfInBounds_toArray, List.set_cons_zero, List.set_cons_succ])
  refine wpAnyH_take (i := 6) (oi := ({ dst := some 10, op := Op.load 65 (Operand.tmp 9), type := 65, pos := "help.go:86", after := #[{ on := 5, ground := Ground.data }], guard := none } : Oper)) (v := ?vax7) rfl (by kernel_rfl) (by kernel_rfl) (by kernel_rfl) (fun _ _ _ h => h) (Or.inl ⟨by rfl, fun w hSw => ?hyax7⟩) (by assumption) ?rax7
  case hyax7 => (try dsimp only at hSw); go_simp; (try with_reducible rfl)
  (try simp only [Act.put, List.setIfInBounds_toArray, List.set_cons_zero, List.set_cons_succ])
  refine wpAnyH_take (i := 7) (oi := ({ dst := some 11, op := Op.fieldAddr 67 (Operand.tmp 3) 1, type := 0, pos := "help.go:86", after := #[], guard := none } : Oper)) (v := ?vax8) rfl (by kernel_rfl) (by kernel_rfl) (by kernel_rfl) (fun _ _ _ h => h) (Or.inl ⟨by rfl, fun w hSw => ?hyax8⟩) (by assumption) ?rax8
  case hyax8 => (try dsimp only at hSw); go_simp; (try with_reducible rfl)
  (try simp only [Act.put, List.setIfInBounds_toArray, List.set_cons_zero, List.set_cons_succ])
  refine wpAnyH_take (i := 8) (oi := ({ dst := some 12, op := Op.load 22 (Operand.tmp 11), type := 22, pos := "help.go:86", after := #[{ on := 7, ground := Ground.data }], guard := none } : Oper)) (v := ?vax9) rfl (by kernel_rfl) (by kernel_rfl) (by kernel_rfl) (fun _ _ _ h => h) (Or.inl ⟨by rfl, fun w hSw => ?hyax9⟩) (by assumption) ?rax9
  case hyax9 => (try dsimp only at hSw); go_simp; (try with_reducible rfl)
  (try simp only [Act.put, List.setIfInBounds_toArray, List.set_cons_zero, List.set_cons_succ])
  refine wpAnyH_ready (rs := [9]) (by kernel_rfl) (by simp) ?_
  refine AllReadyH.cons (o := ({ dst := some 13, op := Op.call { callee := Callee.value (Operand.func 103), args := #[Operand.tmp 8, Operand.tmp 10, Operand.tmp 12], argTypes := #[39, 65, 22] }, type := 22, pos := "help.go:86", after := #[{ on := 4, ground := Ground.data }, { on := 6, ground := Ground.data }, { on := 8, ground := Ground.data }], guard := none } : Oper)) rfl (fun Kq hKq => ?_) AllReadyH.nil
  go_simp
  (refine (HST.out _ rfl).mono ?_; rintro e w3 ⟨rfl, X3, h3, i0, i1, i2⟩)
  have j0 := cell_row i0 0; have j1 := cell_row i0 1; have l0 := cell_row i1 0; have l1 := cell_row i1 1
  simp only [List.getElem?_toArray, List.getElem?_cons_zero, List.getElem?_cons_succ] at j0 j1 l0 l1
  refine hKq.out _ _ ?_ (fun hHeld => ?_)
  · exact ⟨j0, l0, l1, i2⟩
  clear hKq Kq
  (try simp only [Act.put, List.setIfInBounds_toArray, List.set_cons_zero, List.set_cons_succ])
  refine wpAnyH_done (by kernel_rfl) ?_ _
  have hws := h3.wstore HQ.out.1 HQ.out.2.1 (by have := HQ.out.2.2; omega)
  have HWS := Lib.hid hws
  clear hHeld h3 hws i0 i1 i2 c0 c1 d0 d1 k0
  go_wp2_with (go_at_call 104; refine HWS.out.mono ?_; rintro e w4 ⟨rfl, Y4, h4⟩)
  go_end0
  exact ⟨rfl, M, X3, Y4, h4⟩
end
end Go.Proofs.YtdfnocopakbhoaaGreatDoor.S12
namespace Go.Proofs.YtdfnocopakbhoaaGreatDoor.S12
open Go.Proofs.YtdfnocopakbhoaaGreatDoor Go.Proofs.YtdfnocopakbhoaaGreatDoor.S11
open Go.RowKit

section
variable {w0 w w' : World} {base WB RB N cn tn : Nat} {M RM : Int → List S10.Bk} {E : List Part} {X : Wm} {Y : Rm}
set_option maxRecDepth 100000 in
set_option maxHeartbeats 4000000 in
theorem pair_tick (h : Bg w0 w base WB RB N cn tn M M E X Y) {n : Nat} (hn : n ≤ 18446744073709551615) :
    Calls Tryz.prog 59 #[.agg #[Pw WB, Pw RB], .int .u64 n] w fun e w' => e = .returned (.tuple #[]) ∧ BgE w0 w' base WB RB N cn tn E := by
  have hb : Below w.heap.size w (w.alloc (.cells #[Pw WB, Pw RB] 38)) := (Below.refl _ _).alloc (Nat.le_refl _) _
  have h0 := heap_alloc_new w (.cells #[Pw WB, Pw RB] 38)
  have HLT : Hid (∀ k, Foot X k → k < w.heap.size) := Lib.hid (fun k hk => h.pr.pw.foot_lt hk)
  obtain ⟨B0, hB0⟩ : ∃ B0, B0 = w.heap.size := ⟨_, rfl⟩
  rw [← hB0] at h0
  have h1 := h.new hb
  have c0 := cell_row h0 0; have c1 := cell_row h0 1
  simp only [List.getElem?_toArray, List.getElem?_cons_zero, List.getElem?_cons_succ] at c0 c1
  obtain ⟨_, k1, _, _, _, _⟩ := h1.c
  have HST : Hid (Calls Tryz.prog 19 #[Pw X.kB, .int .u64 n] (w.alloc (.cells #[Pw WB, Pw RB] 38)) fun e w' => e = .returned (.tuple #[]) ∧ ∃ X', Bg w0 w' base WB RB N cn tn M M E X' Y ∧ w'.heap[B0]? = some (.cells #[Pw WB, Pw RB] 38 (0, 0))) := Lib.hid (by
    refine (S3.tick_any h1.pr.pw.clock n hn).mono ?_
    rintro e w' ⟨rfl, hc, t⟩
    obtain ⟨hp, hb2⟩ := t_clock (i := 1) h1.pr rfl hc (fun g hg => .inl hg) (t.mono (fun k _ e => .inl e))
    exact ⟨rfl, { X with T := S3.sat X.T n }, ⟨hp, h1.wB, h1.rB, h1.xn, h1.yn, h1.pn, h1.nD, h1.xm, h1.ym, h1.gd, h1.gr, h1.tn, Nat.le_trans h1.rb t.size, h1.bl.trans hb2⟩,
      (t.block B0 (Array.getElem?_eq_some_iff.1 h0).1 (fun e => by have := HLT.out X.kB ⟨1, _, rfl, .inl rfl⟩; omega)).trans h0⟩)
  have HB0 := Lib.hid hB0
  clear hb h0 h1 h HLT hB0
  go_enter Tryz.func59, Tryz.ntmps59
  go_upto_region 1 with (fail)
  rw [← HB0.out]
  clear HB0
  generalize w.alloc (.cells #[Pw WB, Pw RB] 38) = w1 at *
  go_upto_region 2 with (go_at_call 19; refine HST.out.mono ?_; rintro e w3 ⟨rfl, X3, h3, i0⟩)
  have j1 := cell_row i0 1
  simp only [List.getElem?_toArray, List.getElem?_cons_zero, List.getElem?_cons_succ] at j1
  obtain ⟨_, _, _, _, k5, _⟩ := h3.c
  have HRT := Lib.hid (h3.rtick hn)
  clear h3 i0 HST c0 c1 k1
  go_wp2_with (go_at_call 107; refine HRT.out.mono ?_; rintro e w4 ⟨rfl, Y4, h4⟩)
  go_end0
  exact ⟨rfl, M, X3, Y4, h4⟩
end
end Go.Proofs.YtdfnocopakbhoaaGreatDoor.S12
namespace Go.Proofs.YtdfnocopakbhoaaGreatDoor.S12
open Go.Proofs.YtdfnocopakbhoaaGreatDoor Go.Proofs.YtdfnocopakbhoaaGreatDoor.S11
open Go.RowKit

theorem rnew_lo (spin most : Int) (n c : Nat) (A : Option Addr) (h : spin < 0) (w : World) : Calls Tryz.prog 7 #[.agg #[.int .i64 spin, .int .u64 most, .slice A n c]] w fun e w' => e = .returned (.tuple #[.pointer none, .int .i64 1]) ∧ Below w.heap.size w w' := by
  have HB : Hid (Below w.heap.size w (w.alloc (.cells #[.int .i64 spin, .int .u64 most, .slice A n c] 35))) := Lib.hid ((Below.refl _ _).alloc (Nat.le_refl _) _)
  have h1 : decide (spin < 0) = true := by simpa using h
  clear h
  go_enter Tryz.func7, Tryz.ntmps7
  go_wp2_with fail
  go_ret2
  exact ⟨rfl, HB.out⟩
theorem rnew_hi (spin most : Int) (n c : Nat) (A : Option Addr) (h : 16 < spin) (w : World) : Calls Tryz.prog 7 #[.agg #[.int .i64 spin, .int .u64 most, .slice A n c]] w fun e w' => e = .returned (.tuple #[.pointer none, .int .i64 1]) ∧ Below w.heap.size w w' := by
  have HB : Hid (Below w.heap.size w (w.alloc (.cells #[.int .i64 spin, .int .u64 most, .slice A n c] 35))) := Lib.hid ((Below.refl _ _).alloc (Nat.le_refl _) _)
  have h1 : decide (spin < 0) = false := by simp; omega
  have h2 : decide (16 < spin) = true := by simpa using h
  clear h
  go_enter Tryz.func7, Tryz.ntmps7
  go_wp2_with fail
  go_ret2
  exact ⟨rfl, HB.out⟩
theorem rnew_big (spin most : Int) (n c : Nat) (A : Option Addr) (h : 0 ≤ spin ∧ spin ≤ 16) (hn : 65536 < n) (w : World) : Calls Tryz.prog 7 #[.agg #[.int .i64 spin, .int .u64 most, .slice A n c]] w fun e w' => e = .returned (.tuple #[.pointer none, .int .i64 1]) ∧ Below w.heap.size w w' := by
  have HB : Hid (Below w.heap.size w (w.alloc (.cells #[.int .i64 spin, .int .u64 most, .slice A n c] 35))) := Lib.hid ((Below.refl _ _).alloc (Nat.le_refl _) _)
  have h1 : decide (spin < 0) = false := by simp; omega
  have h2 : decide (16 < spin) = false := by simp; omega
  have h3 : decide ((65536 : Int) < (n : Int)) = true := by simp; omega
  clear h hn
  go_enter Tryz.func7, Tryz.ntmps7
  go_wp2_with fail
  go_ret2
  exact ⟨rfl, HB.out⟩
theorem rnew_no (spin most : Int) (n c : Nat) (A : Option Addr) (h : okC spin n = false) (w : World) : Calls Tryz.prog 7 #[.agg #[.int .i64 spin, .int .u64 most, .slice A n c]] w fun e w' => e = .returned (.tuple #[.pointer none, .int .i64 1]) ∧ Below w.heap.size w w' := by
  by_cases h1 : spin < 0
  · exact rnew_lo spin most n c A h1 w
  · by_cases h2 : 16 < spin
    · exact rnew_hi spin most n c A h2 w
    · refine rnew_big spin most n c A ⟨by omega, by omega⟩ ?_ w
      simp [okC] at h
      have := h (by omega) (by omega)
      omega
/-- The document's world as at first. -/
structure RAt0 (Y : Rm) (spin : Int) (most : Nat) (D : List Nat) : Prop where
  L : Y.L = L02
  n : Y.n = 0
  k : Y.k = 0
  a : Y.a = 0
  was : Y.was = 0
  is : Y.is = 0
  T : Y.T = 0
  most : Y.most = most
  D : Y.D = D
  M : Y.M = S10.M0 0
  sp : Y.sp = spin
theorem rworld_y {w w' : World} {spin : Int} {most : Nat} {D : List Nat} {Bw : Nat} (h : RWorld w w' spin most D Bw) : ∃ Y : Rm, Y.wB = Bw ∧ Parts w' w.heap.size Y.parts ∧ RAt0 Y spin most (D.take 65536) ∧ Y.rb ≤ w'.heap.size := by
  obtain ⟨q, Bc, Bk, Bp, Bl, Bt, Bn, bc, bk, bt, sc, sk, own, hp⟩ := h
  have h2 := Parts.right hp
  have hc : S2.RefAt w' bc Bc sc L02 0 0 0 0 0 := h2.ok 0 _ rfl
  have hl : bc ≤ w'.heap.size := by
    obtain ⟨p, cap, e, hg⟩ := S2.row_slice hc.own
    obtain ⟨g, rfl⟩ := hg (by decide)
    have := hc.own.lt g (by rw [e]; rfl)
    omega
  exact ⟨{ rb := bc, rB := Bc, rs := sc, L := L02, n := 0, k := 0, a := 0, was := 0, is := 0, kb := bk, kB := Bk, T := 0, most := most, ks := sk, D := D.take 65536, tb := bt, tO := own, ts := Pw Bt, M := S10.M0 0, pB := Bp, lB := Bl, nB := Bn, wB := Bw, sp := spin }, rfl, h2, ⟨rfl, rfl, rfl, rfl, rfl, rfl, rfl, rfl, rfl, rfl, rfl⟩, hl⟩
/-- What the document's New leaves. -/
def RNewE (w w' : World) (spin : Int) (most : Nat) (D : List Nat) (v : Value) (er : Int) : Prop :=
  (okC spin D.length = true ∧ er = 0 ∧ ∃ Y : Rm, v = Pw Y.wB ∧ Parts w' w.heap.size Y.parts ∧ RAt0 Y spin most D ∧ Y.rb ≤ w'.heap.size) ∨ (okC spin D.length = false ∧ v = .pointer none ∧ er = 1)
theorem rnew_any {w : World} (spin : Int) (most c : Nat) {A : Option Addr} {D : List Nat} {b2 : Nat} (hn : D.length ≤ c) (hc : c ≤ 9223372036854775807) (hm : most ≤ 18446744073709551615) (hr : S3.Rd w b2 A D) (hb2 : b2 ≤ w.heap.size) (hD : ∀ d ∈ D, d ≤ 18446744073709551615) :
    Calls Tryz.prog 7 #[.agg #[.int .i64 spin, .int .u64 (most : Int), .slice A D.length c]] w fun e w' => ∃ v er, e = .returned (.tuple #[.pointer v, .int .i64 er]) ∧ RNewE w w' spin most D (.pointer v) er ∧ Below w.heap.size w w' := by
  cases hok : okC spin D.length
  · refine (rnew_no spin most D.length c A hok w).mono ?_
    rintro e w' ⟨rfl, hb⟩
    exact ⟨_, _, rfl, .inr ⟨hok, rfl, rfl⟩, hb⟩
  · have hb : 0 ≤ spin ∧ spin ≤ 16 ∧ D.length ≤ 65536 := by simp [okC] at hok; omega
    refine (rworld_any spin most D.length c A (D := D) ⟨hb.1, hb.2.1⟩ hb.2.2 (fun W q => S3.rnew_any c most hn hc hm (hr.below q hb2) (Nat.le_trans hb2 q.size) hD)).mono ?_
    rintro e w' ⟨Bw, rfl, hw, hbl⟩
    obtain ⟨Y, h1, h2, h3, h4⟩ := rworld_y hw
    rw [List.take_of_length_le hb.2.2] at h3
    exact ⟨_, _, rfl, .inl ⟨hok, rfl, Y, by rw [h1], h2, h3, h4⟩, hbl⟩
/-- What the program's New leaves. -/
def WNewE (w w' : World) (spin : Int) (most : Nat) (D : List Nat) (v : Value) (er : Int) : Prop :=
  (okC spin D.length = true ∧ er = 0 ∧ ∃ X : Wm, v = Pw X.wB ∧ PW w' w.heap.size X ∧ At0 X spin most D) ∨ (okC spin D.length = false ∧ v = .pointer none ∧ er = 1)
theorem wnew_any {w : World} (spin : Int) (most c : Nat) {A : Option Addr} {D : List Nat} {b2 : Nat} (hn : D.length ≤ c) (hc : c ≤ 9223372036854775807) (hm : most ≤ 18446744073709551615) (hr : S3.Rd w b2 A D) (hb2 : b2 ≤ w.heap.size) (hD : ∀ d ∈ D, d ≤ 18446744073709551615) :
    Calls Tryz.prog 6 #[.agg #[.int .i64 spin, .int .u64 (most : Int), .slice A D.length c]] w fun e w' => ∃ v er, e = .returned (.tuple #[.pointer v, .int .i64 er]) ∧ WNewE w w' spin most D (.pointer v) er ∧ Below w.heap.size w w' := by
  cases hok : okC spin D.length
  · refine (new_no spin most D.length c A hok w).mono ?_
    rintro e w' ⟨rfl, hb⟩
    exact ⟨_, _, rfl, .inr ⟨hok, rfl, rfl⟩, hb⟩
  · have hb : 0 ≤ spin ∧ spin ≤ 16 ∧ D.length ≤ 65536 := by simp [okC] at hok; omega
    refine (new_yes spin most D.length c A (D := D) hok (fun W q => by
      have := S3.new_any c most hn hc hm (hr.below q hb2) (Nat.le_trans hb2 q.size) hD
      rw [List.take_of_length_le hb.2.2] at this
      exact this)).mono ?_
    rintro e w' ⟨X, rfl, hp, h0, hbl⟩
    exact ⟨_, _, rfl, .inl ⟨hok, rfl, X, rfl, hp, h0⟩, hbl⟩
/-- Both, as they are made one behind the other. -/
theorem bg_first {w0 w1 w2 : World} {base : Nat} {X : Wm} {Y : Rm} {spin : Int} {most : Nat} {D : List Nat} (hY : Parts w1 base Y.parts) (hr : RAt0 Y spin most D) (hb : Y.rb ≤ w1.heap.size) (hX : PW w2 w1.heap.size X) (hx : At0 X spin most D) (b : Below w1.heap.size w1 w2) (hbl : Below base w0 w2) :
    Bg w0 w2 base X.wB Y.wB 0 0 1 (S10.M0 0) (S10.M0 0) [] X Y := by
  have hj := hY.join b hX (Nat.le_refl _)
  refine ⟨?_, rfl, rfl, by rw [hx.n]; omega, by rw [hr.n]; omega, hx.pn, hx.nD, hx.tM, hr.M, S10.good_first 0, S10.good_first 0, by rw [hx.tn]; omega, Nat.le_trans hb b.size, hbl⟩
  unfold PairAt
  rw [List.append_nil]
  exact hj
end Go.Proofs.YtdfnocopakbhoaaGreatDoor.S12
