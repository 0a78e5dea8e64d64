/- Texts of this seat, one behind the other. -/
import Derived.Test.YthafnphpcdbnlaaGreatDoorMLawNew30
import Derived.Test.YthafnphpcdbnlaaGreatDoorMLawNew31
set_option linter.unusedVariables false
set_option linter.unusedSimpArgs false
set_option linter.unusedVariables false
set_option linter.unusedSimpArgs false
namespace Go.Proofs.YthafnphpcdbnlaaGreatDoor.S12
open Go.Proofs.YthafnphpcdbnlaaGreatDoor Go.Proofs.YthafnphpcdbnlaaGreatDoor.S11
open Go.RowKit

/-- May a config be? -/
def okC (spin : Int) (n : Nat) : Bool := decide (0 ≤ spin) && (decide (spin ≤ 16) && decide ((n : Int) ≤ 65536))
theorem mayBe_any (spin most : Int) (n c : Nat) (A : Option Addr) (w : World) : Calls Tryz.prog 17 #[.agg #[.int .i64 spin, .int .u64 most, .slice A n c]] w fun e w' => e = .returned (.bool (okC spin n)) ∧ Below w.heap.size w w' := by
  have HB : Hid (Below w.heap.size w (w.alloc (.cells #[.int .i64 spin, .int .u64 most, .slice A n c] 25))) := Lib.hid ((Below.refl _ _).alloc (Nat.le_refl _) _)
  unfold okC
  cases h1 : decide (0 ≤ spin)
  · go_enter Tryz.func17, Tryz.ntmps17
    go_wp2
    go_ret
    exact ⟨rfl, HB.out⟩
  · cases h2 : decide (spin ≤ 16)
    · go_enter Tryz.func17, Tryz.ntmps17
      go_wp2
      go_ret
      exact ⟨rfl, HB.out⟩
    · cases h3 : decide ((n : Int) ≤ 65536)
      · go_enter Tryz.func17, Tryz.ntmps17
        go_wp2
        go_ret
        exact ⟨rfl, HB.out⟩
      · go_enter Tryz.func17, Tryz.ntmps17
        go_wp2
        go_ret
        exact ⟨rfl, HB.out⟩
theorem new_no (spin most : Int) (n c : Nat) (A : Option Addr) (h : okC spin n = false) (w : World) : Calls Tryz.prog 5 #[.agg #[.int .i64 spin, .int .u64 most, .slice A n c]] w fun e w' => e = .returned (.tuple #[.pointer none, .int .i64 1]) ∧ Below w.heap.size w w' := by
  have hb : Below w.heap.size w (w.alloc (.cells #[.int .i64 spin, .int .u64 most, .slice A n c] 25)) := (Below.refl _ _).alloc (Nat.le_refl _) _
  have HB := Lib.hid hb
  have HM := Lib.hid (mayBe_any spin most n c A)
  rw [h] at HM
  have hnew := heap_alloc_new w (.cells #[.int .i64 spin, .int .u64 most, .slice A n c] 25)
  have c0 := cell_row hnew 0; have c1 := cell_row hnew 1; have c2 := cell_row hnew 2
  simp only [List.getElem?_toArray, List.getElem?_cons_zero, List.getElem?_cons_succ] at c0 c1 c2
  clear hb hnew h
  go_enter Tryz.func5, Tryz.ntmps5
  go_upto_region 1 with (fail)
  generalize w.alloc (.cells #[.int .i64 spin, .int .u64 most, .slice A n c] 25) = wb at *
  go_wp2_with (go_at_call 17; refine (HM.out _).mono ?_; rintro e w1 ⟨rfl, hb1⟩)
  go_ret2
  exact ⟨rfl, HB.out.trans (hb1.mono HB.out.size)⟩
/-- A world as at first. -/
structure At0 (X : Wm) (spin : Int) (most : Nat) (D : List Nat) : Prop where
  L : X.L = L02
  n : X.n = 0
  k : X.k = 0
  a : X.a = 0
  was : X.was = 0
  is : X.is = 0
  T : X.T = 0
  most : X.most = most
  D : X.D = D
  pf : X.pf = fun _ => S4.pk0
  pn : X.pn = 0
  pk : X.pk = 0
  pp : X.pp = 0
  lk : X.lk = S5.S0
  tn : X.tn = 1
  tM : X.tM = S10.M0 0
  nD : X.nD = []
  sp : X.sp = spin
def NewW (w w' : World) (spin : Int) (most : Nat) (D : List Nat) (e : Ending) : Prop := ∃ X, e = .returned (.tuple #[Pw X.wB, .int .i64 0]) ∧ PW w' w.heap.size X ∧ At0 X spin most D ∧ Below w.heap.size w w'
set_option maxRecDepth 100000 in
set_option maxHeartbeats 4000000 in
theorem new_yes {w : World} (spin : Int) (most n c : Nat) (A : Option Addr) {D : List Nat} (h : okC spin n = true)
    (hck : ∀ W, Below w.heap.size w W → Calls Tryz.prog 19 #[.slice A n c, .int .u64 (most : Int)] W (S3.Made W 0 most D)) :
    Calls Tryz.prog 5 #[.agg #[.int .i64 spin, .int .u64 (most : Int), .slice A n c]] w fun e w' => NewW w w' spin most D e := by
  have hb : Below w.heap.size w (w.alloc (.cells #[.int .i64 spin, .int .u64 (most : Int), .slice A n c] 25)) := (Below.refl _ _).alloc (Nat.le_refl _) _
  have HB := Lib.hid hb
  have HM := Lib.hid (mayBe_any spin (most : Int) n c A)
  rw [h] at HM
  have HCK := Lib.hid hck
  have hnew := heap_alloc_new w (.cells #[.int .i64 spin, .int .u64 (most : Int), .slice A n c] 25)
  have c0 := cell_row hnew 0; have c1 := cell_row hnew 1; have c2 := cell_row hnew 2
  obtain ⟨B0, hB0⟩ : ∃ B0, B0 = w.heap.size := ⟨_, rfl⟩
  rw [← hB0] at c0 c1 c2
  simp only [List.getElem?_toArray, List.getElem?_cons_zero, List.getElem?_cons_succ] at c0 c1 c2
  have HB0 := Lib.hid hB0
  clear hb hnew h hck hB0
  go_enter Tryz.func5, Tryz.ntmps5
  go_upto_region 1 with (fail)
  rw [← HB0.out]
  generalize w.alloc (.cells #[.int .i64 spin, .int .u64 (most : Int), .slice A n c] 25) = wa at *
  go_upto_region 3 with (go_at_call 17; refine (HM.out _).mono ?_; rintro e wb ⟨rfl, hb1⟩)
  have HBW : Hid (Below w.heap.size w wb) := Lib.hid (HB.out.trans (hb1.mono HB.out.size))
  have HC : Hid (∀ W, Below wb.heap.size wb W → W.cell? ⟨B0, 0, none⟩ = some (.int .i64 spin) ∧ W.cell? ⟨B0, 1, none⟩ = some (.int .u64 (most : Int)) ∧ W.cell? ⟨B0, 2, none⟩ = some (.slice A n c)) := Lib.hid (fun W q => ⟨bcell (hb1.trans (q.mono hb1.size)) c0, bcell (hb1.trans (q.mono hb1.size)) c1, bcell (hb1.trans (q.mono hb1.size)) c2⟩)
  clear hb1 c0 c1 c2
  refine wp_region_held_drew (S := fun w' => w'.cell? ⟨B0, 0, none⟩ = some (.int .i64 spin) ∧ w'.cell? ⟨B0, 1, none⟩ = some (.int .u64 (most : Int)) ∧ w'.cell? ⟨B0, 2, none⟩ = some (.slice A n c)) (by kernel_rfl) ?_ (fun hHeld => ?_)
  · exact HC.out _ ((Below.refl _ _).drew)
  refine wpAnyH_take (i := 0) (oi := ({ dst := some 8, op := Op.build 70 #[(0, Operand.const (Value.int IntKind.u32 0)), (1, Operand.const (Value.int IntKind.u64 2))], type := 70, pos := "worlds.go:42", after := #[], guard := none } : Oper)) (v := ?vax1) rfl (by kernel_rfl) (by kernel_rfl) (by kernel_rfl) (fun _ _ _ h => h) (Or.inl ⟨by rfl, fun w hSw => ?hyax1⟩) (by assumption) ?rax1
  case hyax1 => (try dsimp only at hSw); go_simp; (try with_reducible rfl)
  (try simp only [Act.put, List.setIfInBounds_toArray, List.set_cons_zero, List.set_cons_succ])
  refine wpAnyH_take (i := 3) (oi := ({ dst := some 11, op := Op.fieldAddr 25 (Operand.tmp 1) 2, type := 0, pos := "worlds.go:42", after := #[], guard := none } : Oper)) (v := ?vax2) rfl (by kernel_rfl) (by kernel_rfl) (by kernel_rfl) (fun _ _ _ h => h) (Or.inl ⟨by rfl, fun w hSw => ?hyax2⟩) (by assumption) ?rax2
  case hyax2 => (try dsimp only at hSw); go_simp; (try with_reducible rfl)
  (try simp only [Act.put, List.setIfInBounds_toArray, List.set_cons_zero, List.set_cons_succ])
  refine wpAnyH_take (i := 4) (oi := ({ dst := some 12, op := Op.load 23 (Operand.tmp 11), type := 23, pos := "worlds.go:42", after := #[{ on := 3, ground := Ground.data }], guard := none } : Oper)) (v := ?vax3) rfl (by kernel_rfl) (by kernel_rfl) (by kernel_rfl) (fun _ _ _ h => h) (Or.inl ⟨by rfl, fun w hSw => ?hyax3⟩) (by assumption) ?rax3
  case hyax3 => (try dsimp only at hSw); go_simp; (try with_reducible rfl)
  (try simp only [Act.put, List.setIfInBounds_toArray, List.set_cons_zero, List.set_cons_succ])
  refine wpAnyH_take (i := 5) (oi := ({ dst := some 13, op := Op.fieldAddr 25 (Operand.tmp 1) 1, type := 0, pos := "worlds.go:42", after := #[], guard := none } : Oper)) (v := ?vax4) rfl (by kernel_rfl) (by kernel_rfl) (by kernel_rfl) (fun _ _ _ h => h) (Or.inl ⟨by rfl, fun w hSw => ?hyax4⟩) (by assumption) ?rax4
  case hyax4 => (try dsimp only at hSw); go_simp; (try with_reducible rfl)
  (try simp only [Act.put, List.setIfInBounds_toArray, List.set_cons_zero, List.set_cons_succ])
  refine wpAnyH_take (i := 6) (oi := ({ dst := some 14, op := Op.load 22 (Operand.tmp 13), type := 22, pos := "worlds.go:42", after := #[{ on := 5, ground := Ground.data }], guard := none } : Oper)) (v := ?vax5) rfl (by kernel_rfl) (by kernel_rfl) (by kernel_rfl) (fun _ _ _ h => h) (Or.inl ⟨by rfl, fun w hSw => ?hyax5⟩) (by assumption) ?rax5
  case hyax5 => (try dsimp only at hSw); go_simp; (try with_reducible rfl)
  (try simp only [Act.put, List.setIfInBounds_toArray, List.set_cons_zero, List.set_cons_succ])
  refine wpAnyH_take (i := 12) (oi := ({ dst := some 20, op := Op.fieldAddr 25 (Operand.tmp 1) 0, type := 0, pos := "worlds.go:42", after := #[], guard := none } : Oper)) (v := ?vax6) rfl (by kernel_rfl) (by kernel_rfl) (by kernel_rfl) (fun _ _ _ h => h) (Or.inl ⟨by rfl, fun w hSw => ?hyax6⟩) (by assumption) ?rax6
  case hyax6 => (try dsimp only at hSw); go_simp; (try with_reducible rfl)
  (try simp only [Act.put, List.setIfInBounds_toArray, List.set_cons_zero, List.set_cons_succ])
  refine wpAnyH_take (i := 13) (oi := ({ dst := some 21, op := Op.load 3 (Operand.tmp 20), type := 3, pos := "worlds.go:42", after := #[{ on := 12, ground := Ground.data }], guard := none } : Oper)) (v := ?vax7) rfl (by kernel_rfl) (by kernel_rfl) (by kernel_rfl) (fun _ _ _ h => h) (Or.inl ⟨by rfl, fun w hSw => ?hyax7⟩) (by assumption) ?rax7
  case hyax7 => (try dsimp only at hSw); go_simp; (try with_reducible rfl)
  (try simp only [Act.put, List.setIfInBounds_toArray, List.set_cons_zero, List.set_cons_succ])
  refine wpAnyH_ready (rs := [1]) (by kernel_rfl) (by simp) ?_
  refine AllReadyH.cons (o := ({ dst := some 9, op := Op.buildSlice 132 1 #[(0, Operand.tmp 8)], type := 132, pos := "worlds.go:42", after := #[{ on := 0, ground := Ground.data }], guard := none } : Oper)) rfl (fun Kq hKq => ?_) AllReadyH.nil
  go_simp
  have R1 : Hid (Below w.heap.size w (wb.alloc (.cells #[.int .u32 0, .int .u64 2] 70)).drew) := Lib.hid (HBW.out.alloc HBW.out.size _).drew
  have C1 : Hid ((wb.alloc (.cells #[.int .u32 0, .int .u64 2] 70)).drew.heap[wb.heap.size]? = some (.cells #[.int .u32 0, .int .u64 2] 70)) := Lib.hid (heap_alloc_new wb _)
  have S1 : Hid (∀ W, Below (wb.alloc (.cells #[.int .u32 0, .int .u64 2] 70)).drew.heap.size (wb.alloc (.cells #[.int .u32 0, .int .u64 2] 70)).drew W → W.cell? ⟨B0, 0, none⟩ = some (.int .i64 spin) ∧ W.cell? ⟨B0, 1, none⟩ = some (.int .u64 (most : Int)) ∧ W.cell? ⟨B0, 2, none⟩ = some (.slice A n c)) := Lib.hid (fun W q => HC.out W ((((Below.refl _ wb).alloc (Nat.le_refl _) _).drew).trans (q.mono (by simp))))
  have hnb := C1.out
  have HSZ : Hid (wb.heap.size < (wb.alloc (.cells #[.int .u32 0, .int .u64 2] 70)).drew.heap.size) := Lib.hid (Array.getElem?_eq_some_iff.1 hnb).1
  clear hnb HC
  generalize (wb.alloc (.cells #[.int .u32 0, .int .u64 2] 70)).drew = w1 at *
  generalize wb.heap.size = bs at *
  have HIN : Hid (S2.WIn w1 w1.heap.size (some ⟨bs, 0, none⟩) 1 (fun _ => 0) (fun _ => 2)) := Lib.hid (fun _ => ⟨bs, 0, rfl, HSZ.out, fun i hi => (show ∀ i, i = 0 → (w1.cell? ⟨bs, 0 + i * 2, none⟩ = some (.int .u32 (((fun _ => 0) i : Nat) : Int)) ∧ w1.cell? ⟨bs, 0 + i * 2 + 1, none⟩ = some (.int .u64 (((fun _ => 2) i : Nat) : Int))) from fun i e => by rw [e]; exact ⟨cell_row C1.out 0, cell_row C1.out 1⟩) i (by omega)⟩)
  have PP0 : Hid (Parts w1 w.heap.size []) := Lib.hid ((parts_nil w).new R1.out)
  refine hKq.out _ _ ?_ (fun hHeld => ?_)
  · exact S1.out _ (Below.refl _ _)
  clear hKq Kq
  (try simp only [Act.put, List.setIfInBounds_toArray, List.set_cons_zero, List.set_cons_succ])
  refine wpAnyH_ready (rs := [2]) (by kernel_rfl) (by simp) ?_
  refine AllReadyH.cons (o := ({ dst := some 10, op := Op.call { callee := Callee.value (Operand.func 18), args := #[Operand.tmp 9], argTypes := #[132] }, type := 39, pos := "worlds.go:44", after := #[{ on := 1, ground := Ground.data }], guard := none } : Oper)) rfl (fun Kq hKq => ?_) AllReadyH.nil
  go_simp
  (refine (S2.new_any (some ⟨bs, 0, none⟩) 1 1 (fun _ => 0) (fun _ => 2) (by omega) (fun i _ => ⟨by simp, by simp⟩) w1 HIN.out).mono ?_; rintro e w2 ⟨rfl, hst, hb⟩)
  obtain ⟨M, hcm, hmm⟩ := hst.own
  have PP1 : Hid (Parts w2 w.heap.size [cellsP w1.heap.size M L02 0 0 0 0 0]) := Lib.hid (PP0.out.push (cellsP w1.heap.size M L02 0 0 0 0 0) (hb) hcm (fun k e => Or.elim (show k = w1.heap.size ∨ M = some k from e) (fun e => Nat.le_of_eq e.symm) (fun e => hmm k e)))
  have R2 : Hid (Below w.heap.size w w2) := Lib.hid (R1.out.trans (hb.mono R1.out.size))
  have B2 : Hid (Below w1.heap.size w1 w2) := Lib.hid (hb)
  clear hb hst hcm hmm
  refine hKq.out _ _ ?_ (fun hHeld => ?_)
  · exact S1.out _ B2.out
  clear hKq Kq
  (try simp only [Act.put, List.setIfInBounds_toArray, List.set_cons_zero, List.set_cons_succ])
  refine wpAnyH_ready (rs := [7]) (by kernel_rfl) (by simp) ?_
  refine AllReadyH.cons (o := ({ dst := some 15, op := Op.call { callee := Callee.value (Operand.func 19), args := #[Operand.tmp 12, Operand.tmp 14], argTypes := #[23, 22] }, type := 40, pos := "worlds.go:45", after := #[{ on := 4, ground := Ground.data }, { on := 6, ground := Ground.data }, { on := 2, ground := Ground.chain }], guard := none } : Oper)) rfl (fun Kq hKq => ?_) AllReadyH.nil
  go_simp
  (refine (HCK.out w2 R2.out).mono ?_; rintro e w3 ⟨kB, ks, rfl, hkl, hcl, hb⟩)
  have PP2 : Hid (Parts w3 w.heap.size [cellsP w1.heap.size M L02 0 0 0 0 0, clockP w2.heap.size kB 0 most ks D]) := Lib.hid (PP1.out.push (clockP w2.heap.size kB 0 most ks D) (hb) hcl (fun k e => Or.elim (show k = kB ∨ ks.ownBlock = some k from e) (fun e => by rw [e]; exact hkl) (fun e => (hcl.own.lt k e).1)))
  have R3 : Hid (Below w.heap.size w w3) := Lib.hid (R2.out.trans (hb.mono R2.out.size))
  have B3 : Hid (Below w1.heap.size w1 w3) := Lib.hid (B2.out.trans (hb.mono B2.out.size))
  clear hb hkl hcl
  refine hKq.out _ _ ?_ (fun hHeld => ?_)
  · exact S1.out _ B3.out
  clear hKq Kq
  (try simp only [Act.put, List.setIfInBounds_toArray, List.set_cons_zero, List.set_cons_succ])
  refine wpAnyH_ready (rs := [8]) (by kernel_rfl) (by simp) ?_
  refine AllReadyH.cons (o := ({ dst := some 16, op := Op.call { callee := Callee.value (Operand.func 20), args := #[], argTypes := #[] }, type := 41, pos := "worlds.go:46", after := #[{ on := 7, ground := Ground.chain }], guard := none } : Oper)) rfl (fun Kq hKq => ?_) AllReadyH.nil
  go_simp
  (refine (S4.pnew_any w3).mono ?_; rintro e w4 ⟨rfl, hpk, hb⟩)
  have PP3 : Hid (Parts w4 w.heap.size [cellsP w1.heap.size M L02 0 0 0 0 0, clockP w2.heap.size kB 0 most ks D, permitsP w3.heap.size (fun _ => S4.pk0) ((0 : Nat) : Int) 0 0]) := Lib.hid (PP2.out.push (permitsP w3.heap.size (fun _ => S4.pk0) ((0 : Nat) : Int) 0 0) (hb) hpk (fun k e => Nat.le_of_eq (show k = w3.heap.size from e).symm))
  have R4 : Hid (Below w.heap.size w w4) := Lib.hid (R3.out.trans (hb.mono R3.out.size))
  have B4 : Hid (Below w1.heap.size w1 w4) := Lib.hid (B3.out.trans (hb.mono B3.out.size))
  clear hb hpk
  refine hKq.out _ _ ?_ (fun hHeld => ?_)
  · exact S1.out _ B4.out
  clear hKq Kq
  (try simp only [Act.put, List.setIfInBounds_toArray, List.set_cons_zero, List.set_cons_succ])
  refine wpAnyH_ready (rs := [9]) (by kernel_rfl) (by simp) ?_
  refine AllReadyH.cons (o := ({ dst := some 17, op := Op.call { callee := Callee.value (Operand.func 21), args := #[], argTypes := #[] }, type := 42, pos := "worlds.go:47", after := #[{ on := 8, ground := Ground.chain }], guard := none } : Oper)) rfl (fun Kq hKq => ?_) AllReadyH.nil
  go_simp
  (refine (S5.new_any w4).mono ?_; rintro e w5 ⟨rfl, hlk, hb⟩)
  have PP4 : Hid (Parts w5 w.heap.size [cellsP w1.heap.size M L02 0 0 0 0 0, clockP w2.heap.size kB 0 most ks D, permitsP w3.heap.size (fun _ => S4.pk0) ((0 : Nat) : Int) 0 0, linksP w4.heap.size S5.S0]) := Lib.hid (PP3.out.push (linksP w4.heap.size S5.S0) (hb) hlk (fun k e => Nat.le_of_eq (show k = w4.heap.size from e).symm))
  have R5 : Hid (Below w.heap.size w w5) := Lib.hid (R4.out.trans (hb.mono R4.out.size))
  have B5 : Hid (Below w1.heap.size w1 w5) := Lib.hid (B4.out.trans (hb.mono B4.out.size))
  clear hb hlk
  refine hKq.out _ _ ?_ (fun hHeld => ?_)
  · exact S1.out _ B5.out
  clear hKq Kq
  (try simp only [Act.put, List.setIfInBounds_toArray, List.set_cons_zero, List.set_cons_succ])
  refine wpAnyH_ready (rs := [10]) (by kernel_rfl) (by simp) ?_
  refine AllReadyH.cons (o := ({ dst := some 18, op := Op.call { callee := Callee.value (Operand.func 22), args := #[Operand.const (Value.int IntKind.u64 0)], argTypes := #[22] }, type := 43, pos := "worlds.go:48", after := #[{ on := 9, ground := Ground.chain }], guard := none } : Oper)) rfl (fun Kq hKq => ?_) AllReadyH.nil
  go_simp
  (refine (S10.new_any 0 w5).mono ?_; rintro e w6 ⟨ts, tO, rfl, hts, hb⟩)
  obtain ⟨tB, hsx⟩ : ∃ tB, ts = Pw tB := by
    obtain ⟨sb, _, _, _, hf⟩ := hts
    exact ⟨sb, hf.hs⟩
  subst hsx
  have PP5 : Hid (Parts w6 w.heap.size [cellsP w1.heap.size M L02 0 0 0 0 0, clockP w2.heap.size kB 0 most ks D, permitsP w3.heap.size (fun _ => S4.pk0) ((0 : Nat) : Int) 0 0, linksP w4.heap.size S5.S0, tablesP w5.heap.size tO (Pw tB) 1 (S10.M0 0)]) := Lib.hid (PP4.out.push (tablesP w5.heap.size tO (Pw tB) 1 (S10.M0 0)) (hb) hts (fun k e => (hts.fp e).1))
  have R6 : Hid (Below w.heap.size w w6) := Lib.hid (R5.out.trans (hb.mono R5.out.size))
  have B6 : Hid (Below w1.heap.size w1 w6) := Lib.hid (B5.out.trans (hb.mono B5.out.size))
  clear hb hts
  refine hKq.out _ _ ?_ (fun hHeld => ?_)
  · exact S1.out _ B6.out
  clear hKq Kq
  (try simp only [Act.put, List.setIfInBounds_toArray, List.set_cons_zero, List.set_cons_succ])
  refine wpAnyH_ready (rs := [11]) (by kernel_rfl) (by simp) ?_
  refine AllReadyH.cons (o := ({ dst := some 19, op := Op.call { callee := Callee.value (Operand.func 23), args := #[], argTypes := #[] }, type := 44, pos := "worlds.go:49", after := #[{ on := 10, ground := Ground.chain }], guard := none } : Oper)) rfl (fun Kq hKq => ?_) AllReadyH.nil
  go_simp
  (refine (S11.new_any w6).mono ?_; rintro e w7 ⟨rfl, hnl, hb⟩)
  have PP6 : Hid (Parts w7 w.heap.size [cellsP w1.heap.size M L02 0 0 0 0 0, clockP w2.heap.size kB 0 most ks D, permitsP w3.heap.size (fun _ => S4.pk0) ((0 : Nat) : Int) 0 0, linksP w4.heap.size S5.S0, tablesP w5.heap.size tO (Pw tB) 1 (S10.M0 0), notesP 150 .u8 w6.heap.size w6.heap.size (.slice none 0 0) []]) := Lib.hid (PP5.out.push (notesP 150 .u8 w6.heap.size w6.heap.size (.slice none 0 0) []) (hb) hnl (fun k e => Or.elim (show k = w6.heap.size ∨ (Value.slice none 0 0).ownBlock = some k from e) (fun e => Nat.le_of_eq e.symm) (fun e => by cases e)))
  have R7 : Hid (Below w.heap.size w w7) := Lib.hid (R6.out.trans (hb.mono R6.out.size))
  have B7 : Hid (Below w1.heap.size w1 w7) := Lib.hid (B6.out.trans (hb.mono B6.out.size))
  clear hb hnl
  refine hKq.out _ _ ?_ (fun hHeld => ?_)
  · exact S1.out _ B7.out
  clear hKq Kq
  (try simp only [Act.put, List.setIfInBounds_toArray, List.set_cons_zero, List.set_cons_succ])
  refine wpAnyH_take (i := 14) (oi := ({ dst := some 22, op := Op.build 47 #[(0, Operand.tmp 10), (1, Operand.tmp 15), (2, Operand.tmp 16), (3, Operand.tmp 17), (4, Operand.tmp 18), (5, Operand.tmp 19), (6, Operand.tmp 21)], type := 47, pos := "worlds.go:42", after := #[{ on := 2, ground := Ground.data }, { on := 7, ground := Ground.data }, { on := 8, ground := Ground.data }, { on := 9, ground := Ground.data }, { on := 10, ground := Ground.data }, { on := 11, ground := Ground.data }, { on := 13, ground := Ground.data }], guard := none } : Oper)) (v := ?vax8) rfl (by kernel_rfl) (by kernel_rfl) (by kernel_rfl) (fun _ _ _ h => h) (Or.inl ⟨by rfl, fun w hSw => ?hyax8⟩) (by assumption) ?rax8
  case hyax8 => (try dsimp only at hSw); go_simp; (try with_reducible rfl)
  (try simp only [Act.put, List.setIfInBounds_toArray, List.set_cons_zero, List.set_cons_succ])
  refine wpAnyH_ready (rs := [15]) (by kernel_rfl) (by simp) ?_
  refine AllReadyH.cons (o := ({ dst := some 23, op := Op.box 47 (Operand.tmp 22), type := 28, pos := "worlds.go:42", after := #[{ on := 14, ground := Ground.data }], guard := none } : Oper)) rfl (fun Kq hKq => ?_) AllReadyH.nil
  go_simp
  have HX : Hid (PW (w7.alloc (.cells (Wm.cs { cB := w1.heap.size, cM := M, L := L02, n := 0, k := 0, a := 0, was := 0, is := 0, kb := w2.heap.size, kB := kB, T := 0, most := most, ks := ks, D := D, pB := w3.heap.size, pf := fun _ => S4.pk0, pn := 0, pk := 0, pp := 0, lB := w4.heap.size, lk := S5.S0, tb := w5.heap.size, tO := tO, ts := Pw tB, tn := 1, tM := S10.M0 0, nb := w6.heap.size, nB := w6.heap.size, ns := .slice none 0 0, nD := [], wB := w7.heap.size, sp := spin }) 47)) w.heap.size { cB := w1.heap.size, cM := M, L := L02, n := 0, k := 0, a := 0, was := 0, is := 0, kb := w2.heap.size, kB := kB, T := 0, most := most, ks := ks, D := D, pB := w3.heap.size, pf := fun _ => S4.pk0, pn := 0, pk := 0, pp := 0, lB := w4.heap.size, lk := S5.S0, tb := w5.heap.size, tO := tO, ts := Pw tB, tn := 1, tM := S10.M0 0, nb := w6.heap.size, nB := w6.heap.size, ns := .slice none 0 0, nD := [], wB := w7.heap.size, sp := spin }) := Lib.hid (PP6.out.push (blockP w7.heap.size (.cells (Wm.cs { cB := w1.heap.size, cM := M, L := L02, n := 0, k := 0, a := 0, was := 0, is := 0, kb := w2.heap.size, kB := kB, T := 0, most := most, ks := ks, D := D, pB := w3.heap.size, pf := fun _ => S4.pk0, pn := 0, pk := 0, pp := 0, lB := w4.heap.size, lk := S5.S0, tb := w5.heap.size, tO := tO, ts := Pw tB, tn := 1, tM := S10.M0 0, nb := w6.heap.size, nB := w6.heap.size, ns := .slice none 0 0, nD := [], wB := w7.heap.size, sp := spin }) 47)) (below1 _ _) (heap_alloc_new _ _) (fun k e => Nat.le_of_eq (show k = w7.heap.size from e).symm))
  have HXB : Hid (Below w.heap.size w (w7.alloc (.cells (Wm.cs { cB := w1.heap.size, cM := M, L := L02, n := 0, k := 0, a := 0, was := 0, is := 0, kb := w2.heap.size, kB := kB, T := 0, most := most, ks := ks, D := D, pB := w3.heap.size, pf := fun _ => S4.pk0, pn := 0, pk := 0, pp := 0, lB := w4.heap.size, lk := S5.S0, tb := w5.heap.size, tO := tO, ts := Pw tB, tn := 1, tM := S10.M0 0, nb := w6.heap.size, nB := w6.heap.size, ns := .slice none 0 0, nD := [], wB := w7.heap.size, sp := spin }) 47))) := Lib.hid (R7.out.alloc R7.out.size _)
  have HXS : Hid (Below w1.heap.size w1 (w7.alloc (.cells (Wm.cs { cB := w1.heap.size, cM := M, L := L02, n := 0, k := 0, a := 0, was := 0, is := 0, kb := w2.heap.size, kB := kB, T := 0, most := most, ks := ks, D := D, pB := w3.heap.size, pf := fun _ => S4.pk0, pn := 0, pk := 0, pp := 0, lB := w4.heap.size, lk := S5.S0, tb := w5.heap.size, tO := tO, ts := Pw tB, tn := 1, tM := S10.M0 0, nb := w6.heap.size, nB := w6.heap.size, ns := .slice none 0 0, nD := [], wB := w7.heap.size, sp := spin }) 47))) := Lib.hid (B7.out.alloc B7.out.size _)
  have HXA : Hid (At0 { cB := w1.heap.size, cM := M, L := L02, n := 0, k := 0, a := 0, was := 0, is := 0, kb := w2.heap.size, kB := kB, T := 0, most := most, ks := ks, D := D, pB := w3.heap.size, pf := fun _ => S4.pk0, pn := 0, pk := 0, pp := 0, lB := w4.heap.size, lk := S5.S0, tb := w5.heap.size, tO := tO, ts := Pw tB, tn := 1, tM := S10.M0 0, nb := w6.heap.size, nB := w6.heap.size, ns := .slice none 0 0, nD := [], wB := w7.heap.size, sp := spin } spin most D) := Lib.hid ⟨rfl, rfl, rfl, rfl, rfl, rfl, rfl, rfl, rfl, rfl, rfl, rfl, rfl, rfl, rfl, rfl, rfl, rfl⟩
  unfold Wm.cs pcells at HX HXB HXS
  dsimp only at HX HXB HXS HXA
  refine hKq.out _ _ ?_ (fun hHeld => ?_)
  · exact S1.out _ HXS.out
  clear hKq Kq
  (try simp only [Act.put, List.setIfInBounds_toArray, List.set_cons_zero, List.set_cons_succ])
  refine wpAnyH_take (i := 16) (oi := ({ dst := some 4, op := Op.assign (Operand.tmp 23), type := 28, pos := "worlds.go:42", after := #[{ on := 15, ground := Ground.data }, { on := 11, ground := Ground.chain }, { on := 0, ground := Ground.phase }, { on := 1, ground := Ground.phase }, { on := 2, ground := Ground.phase }, { on := 3, ground := Ground.phase }, { on := 4, ground := Ground.phase }, { on := 5, ground := Ground.phase }, { on := 6, ground := Ground.phase }, { on := 7, ground := Ground.phase }, { on := 8, ground := Ground.phase }, { on := 9, ground := Ground.phase }, { on := 10, ground := Ground.phase }, { on := 11, ground := Ground.phase }, { on := 12, ground := Ground.phase }, { on := 13, ground := Ground.phase }, { on := 14, ground := Ground.phase }, { on := 15, ground := Ground.phase }], guard := none } : Oper)) (v := ?vax9) rfl (by kernel_rfl) (by kernel_rfl) (by kernel_rfl) (fun _ _ _ h => h) (Or.inl ⟨by rfl, fun w hSw => ?hyax9⟩) (by assumption) ?rax9
  case hyax9 => (try dsimp only at hSw); go_simp; (try with_reducible rfl)
  (try simp only [Act.put, List.setIfInBounds_toArray, List.set_cons_zero, List.set_cons_succ])
  refine wpAnyH_done (by kernel_rfl) ?_ _
  clear hHeld S1
  go_wp2_with fail
  go_ret2
  exact ⟨_, rfl, HX.out, HXA.out, HXB.out⟩
end Go.Proofs.YthafnphpcdbnlaaGreatDoor.S12
