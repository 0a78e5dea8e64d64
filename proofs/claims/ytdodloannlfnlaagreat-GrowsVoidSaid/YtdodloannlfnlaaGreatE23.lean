/- Texts of this seat, one behind the other. -/
import Derived.Test.YtdodloannlfnlaaGreatE21
import Derived.Test.YtdodloannlfnlaaGreatE22
set_option linter.unusedVariables false
set_option linter.unusedSimpArgs false
namespace Go.Proofs.YtdodloannlfnlaaGreat.S12
open Go.Proofs.YtdodloannlfnlaaGreat Go.Proofs.YtdodloannlfnlaaGreat.S11
open Go.RowKit

def okC (spin : Int) (n : Nat) : Bool := decide (0 ≤ spin) && (decide (spin ≤ 16) && decide ((n : Int) ≤ 65536))
theorem mayBe_any (spin most : Int) (n c : Nat) (A : Option Addr) (w : World) : Calls Tryz.prog 40 #[.agg #[.int .i64 spin, .int .u64 most, .slice A n c]] w fun e w' => e = .returned (.bool (okC spin n)) ∧ Below w.heap.size w w' := by
  have HB : Hid (Below w.heap.size w (w.alloc (.cells #[.int .i64 spin, .int .u64 most, .slice A n c] 30))) := Lib.hid ((Below.refl _ _).alloc (Nat.le_refl _) _)
  unfold okC
  cases h1 : decide (0 ≤ spin)
  · go_enter Tryz.func40, Tryz.ntmps40
    go_wp2
    go_ret
    exact ⟨rfl, HB.out⟩
  · cases h2 : decide (spin ≤ 16)
    · go_enter Tryz.func40, Tryz.ntmps40
      go_wp2
      go_ret
      exact ⟨rfl, HB.out⟩
    · cases h3 : decide ((n : Int) ≤ 65536)
      · go_enter Tryz.func40, Tryz.ntmps40
        go_wp2
        go_ret
        exact ⟨rfl, HB.out⟩
      · go_enter Tryz.func40, Tryz.ntmps40
        go_wp2
        go_ret
        exact ⟨rfl, HB.out⟩
theorem new_no (spin most : Int) (n c : Nat) (A : Option Addr) (h : okC spin n = false) (w : World) : Calls Tryz.prog 12 #[.agg #[.int .i64 spin, .int .u64 most, .slice A n c]] w fun e w' => e = .returned (.tuple #[.pointer none, .int .i64 1]) ∧ Below w.heap.size w w' := by
  have hb : Below w.heap.size w (w.alloc (.cells #[.int .i64 spin, .int .u64 most, .slice A n c] 30)) := (Below.refl _ _).alloc (Nat.le_refl _) _
  have HB := Lib.hid hb
  have HM := Lib.hid (mayBe_any spin most n c A)
  rw [h] at HM
  have hnew := heap_alloc_new w (.cells #[.int .i64 spin, .int .u64 most, .slice A n c] 30)
  have c0 := cell_row hnew 0; have c1 := cell_row hnew 1; have c2 := cell_row hnew 2
  simp only [List.getElem?_toArray, List.getElem?_cons_zero, List.getElem?_cons_succ] at c0 c1 c2
  clear hb hnew h
  go_enter Tryz.func12, Tryz.ntmps12
  go_upto_region 1 with (fail)
  generalize w.alloc (.cells #[.int .i64 spin, .int .u64 most, .slice A n c] 30) = wb at *
  go_wp2_with (go_at_call 40; refine (HM.out _).mono ?_; rintro e w1 ⟨rfl, hb1⟩)
  go_ret2
  exact ⟨rfl, HB.out.trans (hb1.mono HB.out.size)⟩
structure At0 (X : Wm) (spin : Int) (most : Nat) (D : List Nat) : Prop where
  L : X.L = L02
  n : X.n = 0
  k : X.k = 0
  a : X.a = 0
  was : X.was = 0
  is : X.is = 0
  T : X.T = 0
  most : X.most = most
  D : X.D = D
  pf : X.pf = fun _ => S4.pk0
  pn : X.pn = 0
  pk : X.pk = 0
  pp : X.pp = 0
  lk : X.lk = S5.S0
  tn : X.tn = 1
  tM : X.tM = S10.M0 0
  nD : X.nD = []
  sp : X.sp = spin
def NewW (w w' : World) (spin : Int) (most : Nat) (D : List Nat) (e : Ending) : Prop := ∃ X, e = .returned (.tuple #[Pw X.wB, .int .i64 0]) ∧ PW w' w.heap.size X ∧ At0 X spin most D ∧ Below w.heap.size w w'
set_option maxRecDepth 100000 in
set_option maxHeartbeats 4000000 in
theorem new_yes {w : World} (spin : Int) (most n c : Nat) (A : Option Addr) {D : List Nat} (h : okC spin n = true)
    (hck : ∀ W, Below w.heap.size w W → Calls Tryz.prog 42 #[.slice A n c, .int .u64 (most : Int)] W (S3.Made W 0 most D)) :
    Calls Tryz.prog 12 #[.agg #[.int .i64 spin, .int .u64 (most : Int), .slice A n c]] w fun e w' => NewW w w' spin most D e := by
  have hb : Below w.heap.size w (w.alloc (.cells #[.int .i64 spin, .int .u64 (most : Int), .slice A n c] 30)) := (Below.refl _ _).alloc (Nat.le_refl _) _
  have HB := Lib.hid hb
  have HM := Lib.hid (mayBe_any spin (most : Int) n c A)
  rw [h] at HM
  have HCK := Lib.hid hck
  have hnew := heap_alloc_new w (.cells #[.int .i64 spin, .int .u64 (most : Int), .slice A n c] 30)
  have c0 := cell_row hnew 0; have c1 := cell_row hnew 1; have c2 := cell_row hnew 2
  obtain ⟨B0, hB0⟩ : ∃ B0, B0 = w.heap.size := ⟨_, rfl⟩
  rw [← hB0] at c0 c1 c2
  simp only [List.getElem?_toArray, List.getElem?_cons_zero, List.getElem?_cons_succ] at c0 c1 c2
  have HB0 := Lib.hid hB0
  clear hb hnew h hck hB0
  go_enter Tryz.func12, Tryz.ntmps12
  go_upto_region 1 with (fail)
  rw [← HB0.out]
  generalize w.alloc (.cells #[.int .i64 spin, .int .u64 (most : Int), .slice A n c] 30) = wa at *
  go_upto_region 3 with (go_at_call 40; refine (HM.out _).mono ?_; rintro e wb ⟨rfl, hb1⟩)
  have HBW : Hid (Below w.heap.size w wb) := Lib.hid (HB.out.trans (hb1.mono HB.out.size))
  have HC : Hid (∀ W, Below wb.heap.size wb W → W.cell? ⟨B0, 0, none⟩ = some (.int .i64 spin) ∧ W.cell? ⟨B0, 1, none⟩ = some (.int .u64 (most : Int)) ∧ W.cell? ⟨B0, 2, none⟩ = some (.slice A n c)) := Lib.hid (fun W q => ⟨bcell (hb1.trans (q.mono hb1.size)) c0, bcell (hb1.trans (q.mono hb1.size)) c1, bcell (hb1.trans (q.mono hb1.size)) c2⟩)
  clear hb1 c0 c1 c2
  refine wp_region_held_drew (S := fun w' => w'.cell? ⟨B0, 0, none⟩ = some (.int .i64 spin) ∧ w'.cell? ⟨B0, 1, none⟩ = some (.int .u64 (most : Int)) ∧ w'.cell? ⟨B0, 2, none⟩ = some (.slice A n c)) (by kernel_rfl) ?_ (fun hHeld => ?_)
  · exact HC.out _ ((Below.refl _ _).drew)
  refine wpAnyH_take (i := 0) (oi := ({ dst := some 8, op := Op.build 133 #[(0, Operand.const (Value.int IntKind.u32 0)), (1, Operand.const (Value.int IntKind.u64 2))], type := 133, pos := "worlds.go:42", after := #[], guard := none } : Oper)) (v := ?vax1) rfl (by kernel_rfl) (by kernel_rfl) (by kernel_rfl) (fun _ _ _ h => h) (Or.inl ⟨by rfl, fun w hSw => ?hyax1⟩) (by assumption) ?rax1
  case hyax1 => (try dsimp only at hSw); go_simp; (try with_reducible rfl)
  (try simp only [Act.put, List.setIfInBounds_toArray, List.set_cons_zero, List.set_cons_succ])
  refine wpAnyH_take (i := 3) (oi := ({ dst := some 11, op := Op.fieldAddr 30 (Operand.tmp 1) 2, type := 0, pos := "worlds.go:42", after := #[], guard := none } : Oper)) (v := ?vax2) rfl (by kernel_rfl) (by kernel_rfl) (by kernel_rfl) (fun _ _ _ h => h) (Or.inl ⟨by rfl, fun w hSw => ?hyax2⟩) (by assumption) ?rax2
  case hyax2 => (try dsimp only at hSw); go_simp; (try with_reducible rfl)
  (try simp only [Act.put, List.setIfInBounds_toArray, List.set_cons_zero, List.set_cons_succ])
  refine wpAnyH_take (i := 4) (oi := ({ dst := some 12, op := Op.load 28 (Operand.tmp 11), type := 28, pos := "worlds.go:42", after := #[{ on := 3, ground := Ground.data }], guard := none } : Oper)) (v := ?vax3) rfl (by kernel_rfl) (by kernel_rfl) (by kernel_rfl) (fun _ _ _ h => h) (Or.inl ⟨by rfl, fun w hSw => ?hyax3⟩) (by assumption) ?rax3
  case hyax3 => (try dsimp only at hSw); go_simp; (try with_reducible rfl)
  (try simp only [Act.put, List.setIfInBounds_toArray, List.set_cons_zero, List.set_cons_succ])
  refine wpAnyH_take (i := 5) (oi := ({ dst := some 13, op := Op.fieldAddr 30 (Operand.tmp 1) 1, type := 0, pos := "worlds.go:42", after := #[], guard := none } : Oper)) (v := ?vax4) rfl (by kernel_rfl) (by kernel_rfl) (by kernel_rfl) (fun _ _ _ h => h) (Or.inl ⟨by rfl, fun w hSw => ?hyax4⟩) (by assumption) ?rax4
  case hyax4 => (try dsimp only at hSw); go_simp; (try with_reducible rfl)
  (try simp only [Act.put, List.setIfInBounds_toArray, List.set_cons_zero, List.set_cons_succ])
  refine wpAnyH_take (i := 6) (oi := ({ dst := some 14, op := Op.load 27 (Operand.tmp 13), type := 27, pos := "worlds.go:42", after := #[{ on := 5, ground := Ground.data }], guard := none } : Oper)) (v := ?vax5) rfl (by kernel_rfl) (by kernel_rfl) (by kernel_rfl) (fun _ _ _ h => h) (Or.inl ⟨by rfl, fun w hSw => ?hyax5⟩) (by assumption) ?rax5
  case hyax5 => (try dsimp only at hSw); go_simp; (try with_reducible rfl)
  (try simp only [Act.put, List.setIfInBounds_toArray, List.set_cons_zero, List.set_cons_succ])
  refine wpAnyH_take (i := 12) (oi := ({ dst := some 20, op := Op.fieldAddr 30 (Operand.tmp 1) 0, type := 0, pos := "worlds.go:42", after := #[], guard := none } : Oper)) (v := ?vax6) rfl (by kernel_rfl) (by kernel_rfl) (by kernel_rfl) (fun _ _ _ h => h) (Or.inl ⟨by rfl, fun w hSw => ?hyax6⟩) (by assumption) ?rax6
  case hyax6 => (try dsimp only at hSw); go_simp; (try with_reducible rfl)
  (try simp only [Act.put, List.setIfInBounds_toArray, List.set_cons_zero, List.set_cons_succ])
  refine wpAnyH_take (i := 13) (oi := ({ dst := some 21, op := Op.load 3 (Operand.tmp 20), type := 3, pos := "worlds.go:42", after := #[{ on := 12, ground := Ground.data }], guard := none } : Oper)) (v := ?vax7) rfl (by kernel_rfl) (by kernel_rfl) (by kernel_rfl) (fun _ _ _ h => h) (Or.inl ⟨by rfl, fun w hSw => ?hyax7⟩) (by assumption) ?rax7
  case hyax7 => (try dsimp only at hSw); go_simp; (try with_reducible rfl)
  (try simp only [Act.put, List.setIfInBounds_toArray, List.set_cons_zero, List.set_cons_succ])
  refine wpAnyH_ready (rs := [1]) (by kernel_rfl) (by simp) ?_
  refine AllReadyH.cons (o := ({ dst := some 9, op := Op.buildSlice 177 1 #[(0, Operand.tmp 8)], type := 177, pos := "worlds.go:42", after := #[{ on := 0, ground := Ground.data }], guard := none } : Oper)) rfl (fun Kq hKq => ?_) AllReadyH.nil
  go_simp
  have R1 : Hid (Below w.heap.size w (wb.alloc (.cells #[.int .u32 0, .int .u64 2] 133)).drew) := Lib.hid (HBW.out.alloc HBW.out.size _).drew
  have C1 : Hid ((wb.alloc (.cells #[.int .u32 0, .int .u64 2] 133)).drew.heap[wb.heap.size]? = some (.cells #[.int .u32 0, .int .u64 2] 133)) := Lib.hid (heap_alloc_new wb _)
  have S1 : Hid (∀ W, Below (wb.alloc (.cells #[.int .u32 0, .int .u64 2] 133)).drew.heap.size (wb.alloc (.cells #[.int .u32 0, .int .u64 2] 133)).drew W → W.cell? ⟨B0, 0, none⟩ = some (.int .i64 spin) ∧ W.cell? ⟨B0, 1, none⟩ = some (.int .u64 (most : Int)) ∧ W.cell? ⟨B0, 2, none⟩ = some (.slice A n c)) := Lib.hid (fun W q => HC.out W ((((Below.refl _ wb).alloc (Nat.le_refl _) _).drew).trans (q.mono (by simp))))
  have hnb := C1.out
  have HSZ : Hid (wb.heap.size < (wb.alloc (.cells #[.int .u32 0, .int .u64 2] 133)).drew.heap.size) := Lib.hid (Array.getElem?_eq_some_iff.1 hnb).1
  clear hnb HC
  generalize (wb.alloc (.cells #[.int .u32 0, .int .u64 2] 133)).drew = w1 at *
  generalize wb.heap.size = bs at *
  have HIN : Hid (S2.WIn w1 w1.heap.size (some ⟨bs, 0, none⟩) 1 (fun _ => 0) (fun _ => 2)) := Lib.hid (fun _ => ⟨bs, 0, rfl, HSZ.out, fun i hi => (show ∀ i, i = 0 → (w1.cell? ⟨bs, 0 + i * 2, none⟩ = some (.int .u32 (((fun _ => 0) i : Nat) : Int)) ∧ w1.cell? ⟨bs, 0 + i * 2 + 1, none⟩ = some (.int .u64 (((fun _ => 2) i : Nat) : Int))) from fun i e => by rw [e]; exact ⟨cell_row C1.out 0, cell_row C1.out 1⟩) i (by omega)⟩)
  have PP0 : Hid (Parts w1 w.heap.size []) := Lib.hid ((parts_nil w).new R1.out)
  refine hKq.out _ _ ?_ (fun hHeld => ?_)
  · exact S1.out _ (Below.refl _ _)
  clear hKq Kq
  (try simp only [Act.put, List.setIfInBounds_toArray, List.set_cons_zero, List.set_cons_succ])
  refine wpAnyH_ready (rs := [2]) (by kernel_rfl) (by simp) ?_
  refine AllReadyH.cons (o := ({ dst := some 10, op := Op.call { callee := Callee.value (Operand.func 41), args := #[Operand.tmp 9], argTypes := #[177] }, type := 52, pos := "worlds.go:44", after := #[{ on := 1, ground := Ground.data }], guard := none } : Oper)) rfl (fun Kq hKq => ?_) AllReadyH.nil
  go_simp
  (refine (S2.new_any (some ⟨bs, 0, none⟩) 1 1 (fun _ => 0) (fun _ => 2) (by omega) (fun i _ => ⟨by simp, by simp⟩) w1 HIN.out).mono ?_; rintro e w2 ⟨rfl, hst, hb⟩)
  obtain ⟨M, hcm, hmm⟩ := hst.own
  have PP1 : Hid (Parts w2 w.heap.size [cellsP w1.heap.size M L02 0 0 0 0 0]) := Lib.hid (PP0.out.push (cellsP w1.heap.size M L02 0 0 0 0 0) (hb) hcm (fun k e => Or.elim (show k = w1.heap.size ∨ M = some k from e) (fun e => Nat.le_of_eq e.symm) (fun e => hmm k e)))
  have R2 : Hid (Below w.heap.size w w2) := Lib.hid (R1.out.trans (hb.mono R1.out.size))
  have B2 : Hid (Below w1.heap.size w1 w2) := Lib.hid (hb)
  clear hb hst hcm hmm
  refine hKq.out _ _ ?_ (fun hHeld => ?_)
  · exact S1.out _ B2.out
  clear hKq Kq
  (try simp only [Act.put, List.setIfInBounds_toArray, List.set_cons_zero, List.set_cons_succ])
  refine wpAnyH_ready (rs := [7]) (by kernel_rfl) (by simp) ?_
  refine AllReadyH.cons (o := ({ dst := some 15, op := Op.call { callee := Callee.value (Operand.func 42), args := #[Operand.tmp 12, Operand.tmp 14], argTypes := #[28, 27] }, type := 53, pos := "worlds.go:45", after := #[{ on := 4, ground := Ground.data }, { on := 6, ground := Ground.data }, { on := 2, ground := Ground.chain }], guard := none } : Oper)) rfl (fun Kq hKq => ?_) AllReadyH.nil
  go_simp
  (refine (HCK.out w2 R2.out).mono ?_; rintro e w3 ⟨kB, ks, rfl, hkl, hcl, hb⟩)
  have PP2 : Hid (Parts w3 w.heap.size [cellsP w1.heap.size M L02 0 0 0 0 0, clockP w2.heap.size kB 0 most ks D]) := Lib.hid (PP1.out.push (clockP w2.heap.size kB 0 most ks D) (hb) hcl (fun k e => Or.elim (show k = kB ∨ ks.ownBlock = some k from e) (fun e => by rw [e]; exact hkl) (fun e => (hcl.own.lt k e).1)))
  have R3 : Hid (Below w.heap.size w w3) := Lib.hid (R2.out.trans (hb.mono R2.out.size))
  have B3 : Hid (Below w1.heap.size w1 w3) := Lib.hid (B2.out.trans (hb.mono B2.out.size))
  clear hb hkl hcl
  refine hKq.out _ _ ?_ (fun hHeld => ?_)
  · exact S1.out _ B3.out
  clear hKq Kq
  (try simp only [Act.put, List.setIfInBounds_toArray, List.set_cons_zero, List.set_cons_succ])
  refine wpAnyH_ready (rs := [8]) (by kernel_rfl) (by simp) ?_
  refine AllReadyH.cons (o := ({ dst := some 16, op := Op.call { callee := Callee.value (Operand.func 43), args := #[], argTypes := #[] }, type := 54, pos := "worlds.go:46", after := #[{ on := 7, ground := Ground.chain }], guard := none } : Oper)) rfl (fun Kq hKq => ?_) AllReadyH.nil
  go_simp
  (refine (S4.pnew_any w3).mono ?_; rintro e w4 ⟨rfl, hpk, hb⟩)
  have PP3 : Hid (Parts w4 w.heap.size [cellsP w1.heap.size M L02 0 0 0 0 0, clockP w2.heap.size kB 0 most ks D, permitsP w3.heap.size (fun _ => S4.pk0) ((0 : Nat) : Int) 0 0]) := Lib.hid (PP2.out.push (permitsP w3.heap.size (fun _ => S4.pk0) ((0 : Nat) : Int) 0 0) (hb) hpk (fun k e => Nat.le_of_eq (show k = w3.heap.size from e).symm))
  have R4 : Hid (Below w.heap.size w w4) := Lib.hid (R3.out.trans (hb.mono R3.out.size))
  have B4 : Hid (Below w1.heap.size w1 w4) := Lib.hid (B3.out.trans (hb.mono B3.out.size))
  clear hb hpk
  refine hKq.out _ _ ?_ (fun hHeld => ?_)
  · exact S1.out _ B4.out
  clear hKq Kq
  (try simp only [Act.put, List.setIfInBounds_toArray, List.set_cons_zero, List.set_cons_succ])
  refine wpAnyH_ready (rs := [9]) (by kernel_rfl) (by simp) ?_
  refine AllReadyH.cons (o := ({ dst := some 17, op := Op.call { callee := Callee.value (Operand.func 44), args := #[], argTypes := #[] }, type := 55, pos := "worlds.go:47", after := #[{ on := 8, ground := Ground.chain }], guard := none } : Oper)) rfl (fun Kq hKq => ?_) AllReadyH.nil
  go_simp
  (refine (S5.new_any w4).mono ?_; rintro e w5 ⟨rfl, hlk, hb⟩)
  have PP4 : Hid (Parts w5 w.heap.size [cellsP w1.heap.size M L02 0 0 0 0 0, clockP w2.heap.size kB 0 most ks D, permitsP w3.heap.size (fun _ => S4.pk0) ((0 : Nat) : Int) 0 0, linksP w4.heap.size S5.S0]) := Lib.hid (PP3.out.push (linksP w4.heap.size S5.S0) (hb) hlk (fun k e => Nat.le_of_eq (show k = w4.heap.size from e).symm))
  have R5 : Hid (Below w.heap.size w w5) := Lib.hid (R4.out.trans (hb.mono R4.out.size))
  have B5 : Hid (Below w1.heap.size w1 w5) := Lib.hid (B4.out.trans (hb.mono B4.out.size))
  clear hb hlk
  refine hKq.out _ _ ?_ (fun hHeld => ?_)
  · exact S1.out _ B5.out
  clear hKq Kq
  (try simp only [Act.put, List.setIfInBounds_toArray, List.set_cons_zero, List.set_cons_succ])
  refine wpAnyH_ready (rs := [10]) (by kernel_rfl) (by simp) ?_
  refine AllReadyH.cons (o := ({ dst := some 18, op := Op.call { callee := Callee.value (Operand.func 45), args := #[Operand.const (Value.int IntKind.u64 0)], argTypes := #[27] }, type := 56, pos := "worlds.go:48", after := #[{ on := 9, ground := Ground.chain }], guard := none } : Oper)) rfl (fun Kq hKq => ?_) AllReadyH.nil
  go_simp
  (refine (S10.new_any 0 w5).mono ?_; rintro e w6 ⟨ts, tO, rfl, hts, hb⟩)
  obtain ⟨tB, hsx⟩ : ∃ tB, ts = Pw tB := by
    obtain ⟨sb, _, _, _, hf⟩ := hts
    exact ⟨sb, hf.hs⟩
  subst hsx
  have PP5 : Hid (Parts w6 w.heap.size [cellsP w1.heap.size M L02 0 0 0 0 0, clockP w2.heap.size kB 0 most ks D, permitsP w3.heap.size (fun _ => S4.pk0) ((0 : Nat) : Int) 0 0, linksP w4.heap.size S5.S0, tablesP w5.heap.size tO (Pw tB) 1 (S10.M0 0)]) := Lib.hid (PP4.out.push (tablesP w5.heap.size tO (Pw tB) 1 (S10.M0 0)) (hb) hts (fun k e => (hts.fp e).1))
  have R6 : Hid (Below w.heap.size w w6) := Lib.hid (R5.out.trans (hb.mono R5.out.size))
  have B6 : Hid (Below w1.heap.size w1 w6) := Lib.hid (B5.out.trans (hb.mono B5.out.size))
  clear hb hts
  refine hKq.out _ _ ?_ (fun hHeld => ?_)
  · exact S1.out _ B6.out
  clear hKq Kq
  (try simp only [Act.put, List.setIfInBounds_toArray, List.set_cons_zero, List.set_cons_succ])
  refine wpAnyH_ready (rs := [11]) (by kernel_rfl) (by simp) ?_
  refine AllReadyH.cons (o := ({ dst := some 19, op := Op.call { callee := Callee.value (Operand.func 46), args := #[], argTypes := #[] }, type := 57, pos := "worlds.go:49", after := #[{ on := 10, ground := Ground.chain }], guard := none } : Oper)) rfl (fun Kq hKq => ?_) AllReadyH.nil
  go_simp
  (refine (S11.new_any w6).mono ?_; rintro e w7 ⟨rfl, hnl, hb⟩)
  have PP6 : Hid (Parts w7 w.heap.size [cellsP w1.heap.size M L02 0 0 0 0 0, clockP w2.heap.size kB 0 most ks D, permitsP w3.heap.size (fun _ => S4.pk0) ((0 : Nat) : Int) 0 0, linksP w4.heap.size S5.S0, tablesP w5.heap.size tO (Pw tB) 1 (S10.M0 0), notesP 218 .u8 w6.heap.size w6.heap.size (.slice none 0 0) []]) := Lib.hid (PP5.out.push (notesP 218 .u8 w6.heap.size w6.heap.size (.slice none 0 0) []) (hb) hnl (fun k e => Or.elim (show k = w6.heap.size ∨ (Value.slice none 0 0).ownBlock = some k from e) (fun e => Nat.le_of_eq e.symm) (fun e => by cases e)))
  have R7 : Hid (Below w.heap.size w w7) := Lib.hid (R6.out.trans (hb.mono R6.out.size))
  have B7 : Hid (Below w1.heap.size w1 w7) := Lib.hid (B6.out.trans (hb.mono B6.out.size))
  clear hb hnl
  refine hKq.out _ _ ?_ (fun hHeld => ?_)
  · exact S1.out _ B7.out
  clear hKq Kq
  (try simp only [Act.put, List.setIfInBounds_toArray, List.set_cons_zero, List.set_cons_succ])
  refine wpAnyH_take (i := 14) (oi := ({ dst := some 22, op := Op.build 60 #[(0, Operand.tmp 10), (1, Operand.tmp 15), (2, Operand.tmp 16), (3, Operand.tmp 17), (4, Operand.tmp 18), (5, Operand.tmp 19), (6, Operand.tmp 21)], type := 60, pos := "worlds.go:42", after := #[{ on := 2, ground := Ground.data }, { on := 7, ground := Ground.data }, { on := 8, ground := Ground.data }, { on := 9, ground := Ground.data }, { on := 10, ground := Ground.data }, { on := 11, ground := Ground.data }, { on := 13, ground := Ground.data }], guard := none } : Oper)) (v := ?vax8) rfl (by kernel_rfl) (by kernel_rfl) (by kernel_rfl) (fun _ _ _ h => h) (Or.inl ⟨by rfl, fun w hSw => ?hyax8⟩) (by assumption) ?rax8
  case hyax8 => (try dsimp only at hSw); go_simp; (try with_reducible rfl)
  (try simp only [Act.put, List.setIfInBounds_toArray, List.set_cons_zero, List.set_cons_succ])
  refine wpAnyH_ready (rs := [15]) (by kernel_rfl) (by simp) ?_
  refine AllReadyH.cons (o := ({ dst := some 23, op := Op.box 60 (Operand.tmp 22), type := 22, pos := "worlds.go:42", after := #[{ on := 14, ground := Ground.data }], guard := none } : Oper)) rfl (fun Kq hKq => ?_) AllReadyH.nil
  go_simp
  have HX : Hid (PW (w7.alloc (.cells (Wm.cs { cB := w1.heap.size, cM := M, L := L02, n := 0, k := 0, a := 0, was := 0, is := 0, kb := w2.heap.size, kB := kB, T := 0, most := most, ks := ks, D := D, pB := w3.heap.size, pf := fun _ => S4.pk0, pn := 0, pk := 0, pp := 0, lB := w4.heap.size, lk := S5.S0, tb := w5.heap.size, tO := tO, ts := Pw tB, tn := 1, tM := S10.M0 0, nb := w6.heap.size, nB := w6.heap.size, ns := .slice none 0 0, nD := [], wB := w7.heap.size, sp := spin }) 60)) w.heap.size { cB := w1.heap.size, cM := M, L := L02, n := 0, k := 0, a := 0, was := 0, is := 0, kb := w2.heap.size, kB := kB, T := 0, most := most, ks := ks, D := D, pB := w3.heap.size, pf := fun _ => S4.pk0, pn := 0, pk := 0, pp := 0, lB := w4.heap.size, lk := S5.S0, tb := w5.heap.size, tO := tO, ts := Pw tB, tn := 1, tM := S10.M0 0, nb := w6.heap.size, nB := w6.heap.size, ns := .slice none 0 0, nD := [], wB := w7.heap.size, sp := spin }) := Lib.hid (PP6.out.push (blockP w7.heap.size (.cells (Wm.cs { cB := w1.heap.size, cM := M, L := L02, n := 0, k := 0, a := 0, was := 0, is := 0, kb := w2.heap.size, kB := kB, T := 0, most := most, ks := ks, D := D, pB := w3.heap.size, pf := fun _ => S4.pk0, pn := 0, pk := 0, pp := 0, lB := w4.heap.size, lk := S5.S0, tb := w5.heap.size, tO := tO, ts := Pw tB, tn := 1, tM := S10.M0 0, nb := w6.heap.size, nB := w6.heap.size, ns := .slice none 0 0, nD := [], wB := w7.heap.size, sp := spin }) 60)) (below1 _ _) (heap_alloc_new _ _) (fun k e => Nat.le_of_eq (show k = w7.heap.size from e).symm))
  have HXB : Hid (Below w.heap.size w (w7.alloc (.cells (Wm.cs { cB := w1.heap.size, cM := M, L := L02, n := 0, k := 0, a := 0, was := 0, is := 0, kb := w2.heap.size, kB := kB, T := 0, most := most, ks := ks, D := D, pB := w3.heap.size, pf := fun _ => S4.pk0, pn := 0, pk := 0, pp := 0, lB := w4.heap.size, lk := S5.S0, tb := w5.heap.size, tO := tO, ts := Pw tB, tn := 1, tM := S10.M0 0, nb := w6.heap.size, nB := w6.heap.size, ns := .slice none 0 0, nD := [], wB := w7.heap.size, sp := spin }) 60))) := Lib.hid (R7.out.alloc R7.out.size _)
  have HXS : Hid (Below w1.heap.size w1 (w7.alloc (.cells (Wm.cs { cB := w1.heap.size, cM := M, L := L02, n := 0, k := 0, a := 0, was := 0, is := 0, kb := w2.heap.size, kB := kB, T := 0, most := most, ks := ks, D := D, pB := w3.heap.size, pf := fun _ => S4.pk0, pn := 0, pk := 0, pp := 0, lB := w4.heap.size, lk := S5.S0, tb := w5.heap.size, tO := tO, ts := Pw tB, tn := 1, tM := S10.M0 0, nb := w6.heap.size, nB := w6.heap.size, ns := .slice none 0 0, nD := [], wB := w7.heap.size, sp := spin }) 60))) := Lib.hid (B7.out.alloc B7.out.size _)
  have HXA : Hid (At0 { cB := w1.heap.size, cM := M, L := L02, n := 0, k := 0, a := 0, was := 0, is := 0, kb := w2.heap.size, kB := kB, T := 0, most := most, ks := ks, D := D, pB := w3.heap.size, pf := fun _ => S4.pk0, pn := 0, pk := 0, pp := 0, lB := w4.heap.size, lk := S5.S0, tb := w5.heap.size, tO := tO, ts := Pw tB, tn := 1, tM := S10.M0 0, nb := w6.heap.size, nB := w6.heap.size, ns := .slice none 0 0, nD := [], wB := w7.heap.size, sp := spin } spin most D) := Lib.hid ⟨rfl, rfl, rfl, rfl, rfl, rfl, rfl, rfl, rfl, rfl, rfl, rfl, rfl, rfl, rfl, rfl, rfl, rfl⟩
  unfold Wm.cs pcells at HX HXB HXS
  dsimp only at HX HXB HXS HXA
  refine hKq.out _ _ ?_ (fun hHeld => ?_)
  · exact S1.out _ HXS.out
  clear hKq Kq
  (try simp only [Act.put, List.setIfInBounds_toArray, List.set_cons_zero, List.set_cons_succ])
  refine wpAnyH_take (i := 16) (oi := ({ dst := some 4, op := Op.assign (Operand.tmp 23), type := 22, pos := "worlds.go:42", after := #[{ on := 15, ground := Ground.data }, { on := 11, ground := Ground.chain }, { on := 0, ground := Ground.phase }, { on := 1, ground := Ground.phase }, { on := 2, ground := Ground.phase }, { on := 3, ground := Ground.phase }, { on := 4, ground := Ground.phase }, { on := 5, ground := Ground.phase }, { on := 6, ground := Ground.phase }, { on := 7, ground := Ground.phase }, { on := 8, ground := Ground.phase }, { on := 9, ground := Ground.phase }, { on := 10, ground := Ground.phase }, { on := 11, ground := Ground.phase }, { on := 12, ground := Ground.phase }, { on := 13, ground := Ground.phase }, { on := 14, ground := Ground.phase }, { on := 15, ground := Ground.phase }], guard := none } : Oper)) (v := ?vax9) rfl (by kernel_rfl) (by kernel_rfl) (by kernel_rfl) (fun _ _ _ h => h) (Or.inl ⟨by rfl, fun w hSw => ?hyax9⟩) (by assumption) ?rax9
  case hyax9 => (try dsimp only at hSw); go_simp; (try with_reducible rfl)
  (try simp only [Act.put, List.setIfInBounds_toArray, List.set_cons_zero, List.set_cons_succ])
  refine wpAnyH_done (by kernel_rfl) ?_ _
  clear hHeld S1
  go_wp2_with fail
  go_ret2
  exact ⟨_, rfl, HX.out, HXA.out, HXB.out⟩
end Go.Proofs.YtdodloannlfnlaaGreat.S12
namespace Go.Proofs.YtdodloannlfnlaaGreat.S12
open Go.Proofs.YtdodloannlfnlaaGreat Go.Proofs.YtdodloannlfnlaaGreat.S11
open Go.RowKit

structure Nx (X X' : Wm) (dn dp : Nat) (F : List Nt) : Prop where
  wB : X'.wB = X.wB
  n : X'.n = X.n + dn
  pn : X'.pn = X.pn + dp
  nD : X'.nD = F
  tM : X'.tM = X.tM
  tn : X'.tn = X.tn
section
variable {w : World} {base : Nat} {X : Wm}
end
end Go.Proofs.YtdodloannlfnlaaGreat.S12
namespace Go.Proofs.YtdodloannlfnlaaGreat.S3
open Go.Proofs.YtdodloannlfnlaaGreat
open Go.RowKit

structure RefAt (w : World) (base R T most : Nat) (s : Value) (D : List Nat) : Prop where
  nums : Nums T most D
  row : w.heap[R]? = some (.cells #[.int .u64 T, s, .int .u64 most] 108 (0, 0))
  own : Row w base s D
  ne : s.ownBlock ≠ some R
section
variable {w w' : World} {base R T most : Nat} {s : Value} {D : List Nat}
theorem RefAt.lt (h : RefAt w base R T most s D) : R < w.heap.size := (Array.getElem?_eq_some_iff.1 h.row).1
theorem RefAt.kept {S : Nat → Prop} (h : RefAt w base R T most s D) (t : Turns S w w') (hR : ¬ S R) (hs : ∀ g, s.ownBlock = some g → ¬ S g) : RefAt w' base R T most s D :=
  ⟨h.nums, (t.block R h.lt hR).trans h.row, h.own.keep t hs, h.ne⟩
theorem rtick_any (h : RefAt w base R T most s D) (n : Nat) (hn : n ≤ 18446744073709551615) : Calls Tryz.prog 61 #[Pt R, .int .u64 n] w fun e w' => e = .returned (.tuple #[]) ∧ RefAt w' base R (sat T n) most s D ∧ Turns (fun k => k = R) w w' := by
  have c0 : w.cell? ⟨R, 0, none⟩ = some (.int .u64 T) := cell_row h.row 0
  have f0 : w.frozen? ⟨R, 0, none⟩ = false := froz_row h.row 0
  have hq := fun W => plus_any T n h.nums.t hn W
  have hN := h.nums.tick (n := n)
  have HQ := Lib.hid hq
  have H := Lib.hid h
  have HN := Lib.hid hN
  clear hq hn h hN
  generalize sat T n = x at *
  go_enter Tryz.func61, Tryz.ntmps61
  go_wp2_with (first
    | (go_at_call 100; refine (HQ.out _).mono ?_; rintro e w' ⟨rfl, rfl⟩))
  go_end0
  have t : Turns (fun k => k = R) w (w.setCell ⟨R, 0, none⟩ (.int .u64 x)) := (Turns.refl _ w).setCell _ _ rfl
  exact ⟨rfl, ⟨HN.out, row_set H.out.row 0 _, H.out.own.keep t (fun g hg e => H.out.ne (by rw [hg, e])), H.out.ne⟩, t⟩
def RLeaves (w w' : World) (base R T most : Nat) (s : Value) (D : List Nat) : Prop := ∃ s', RefAt w' base R T most s' D ∧ (∀ g, s'.ownBlock = some g → s.ownBlock = some g ∨ w.heap.size ≤ g) ∧ Turns (fun k => k = R) w w'
end
end Go.Proofs.YtdodloannlfnlaaGreat.S3
namespace Go.Proofs.YtdodloannlfnlaaGreat.S3
open Go.Proofs.YtdodloannlfnlaaGreat
open Go.RowKit

theorem rleaves_more {w w3 w4 : World} {base R T most : Nat} {s s3 s4 : Value} {D F : List Nat} (h : RefAt w base R T most s D) (hN : Nums T most F) (ht3 : Turns (fun k => (Value.slice none 0 0).ownBlock = some k) w.drew w3) (ho3 : s3.ownBlock = (Value.slice none 0 0).ownBlock ∨ s3.ownBlock = some w.drew.heap.size)
    (hr4 : Row w4 base s4 F) (ht4 : Turns (fun k => s3.ownBlock = some k) w3 w4) (ho4 : s4.ownBlock = s3.ownBlock ∨ s4.ownBlock = some w3.heap.size) :
    RLeaves w (w4.setCell ⟨R, 1, none⟩ s4) base R T most s F := by
  have hz : w.drew.heap.size = w.heap.size := rfl
  have h3 : ∀ g, s3.ownBlock = some g → w.heap.size ≤ g := fun g e => by
    rcases ho3 with e' | e'
    · rw [e'] at e; simp [Value.ownBlock] at e
    · rw [e'] at e; injection e with e; omega
  have h4 : ∀ g, s4.ownBlock = some g → w.heap.size ≤ g := fun g e => by
    rcases ho4 with e' | e'
    · exact h3 g (e' ▸ e)
    · rw [e'] at e; injection e with e; have := ht3.size; omega
  have t3 : Turns (fun _ => False) w w3 := ⟨ht3.os, ht3.tape, ht3.output, ht3.size, fun k hk _ => ht3.block k hk (by simp [Value.ownBlock])⟩
  have t4 : Turns (fun _ => False) w w4 := t3.trans ht4 (fun k hk e => by have := h3 k e; omega)
  have t1 : Turns (fun k => k = R) w4 (w4.setCell ⟨R, 1, none⟩ s4) := (Turns.refl _ _).setCell _ _ rfl
  have hne4 : s4.ownBlock ≠ some R := fun e => by have := h4 R e; have := h.lt; omega
  refine ⟨s4, ⟨hN, ?_, hr4.keep t1 (fun g hg e => hne4 (by rw [hg, e])), hne4⟩, fun g hg => .inr (h4 g hg), (t4.mono (fun _ _ e => e.elim)).trans t1 (fun k _ e => e)⟩
  exact row_set ((t4.block R h.lt (fun e => e)).trans h.row) 1 _
theorem own_not {w : World} {s3 : Value} {R : Nat} (ho3 : s3.ownBlock = (Value.slice none 0 0).ownBlock ∨ s3.ownBlock = some w.drew.heap.size) (h : R < w.heap.size) : ¬ s3.ownBlock = some R := fun e => by
  have hz : w.drew.heap.size = w.heap.size := rfl
  rcases ho3 with e' | e'
  · rw [e'] at e; simp [Value.ownBlock] at e
  · rw [e'] at e; injection e with e; omega
attribute [local go_sem ↓] Go.wp_at_zero Go.wp_at_succ
set_option maxHeartbeats 4000000 in
set_option maxRecDepth 100000 in
theorem rmore_any {w : World} {base R T most : Nat} {s : Value} {D : List Nat} (h : RefAt w base R T most s D) (hbase : base ≤ w.heap.size) {b2 : Nat} {A : Option Addr} {E : List Nat} (c : Nat) (hn : E.length ≤ c) (hc : c ≤ 9223372036854775807) (hr : Rd w b2 A E) (hb2 : b2 ≤ w.heap.size) (hE : ∀ d ∈ E, d ≤ 18446744073709551615) :
    Calls Tryz.prog 83 #[Pt R, .slice A E.length c] w fun e w' => e = .returned (.tuple #[]) ∧ RLeaves w w' base R T most s (D ++ E.take (65536 - D.length)) := by
  have c2 : w.cell? ⟨R, 1, none⟩ = some s := cell_row h.row 1
  have f2 : w.frozen? ⟨R, 1, none⟩ = false := froz_row h.row 1
  have hlen := h.nums.len
  have hlt := h.lt
  obtain ⟨K, hK⟩ : ∃ K, K = (E.take (65536 - D.length)).length := ⟨_, rfl⟩
  have hKE : K = min E.length (65536 - D.length) := by rw [hK, List.length_take, Nat.min_comm]
  have hKc : K ≤ c := by omega
  have hl2 : D.length + (E.take (65536 - D.length)).length ≤ 3000000 := by rw [← hK]; omega
  have hl1 : ([] : List Nat).length + D.length ≤ 3000000 := by simp; omega
  have hrd := hr.take (65536 - D.length)
  have hN := h.nums.more hE
  obtain ⟨F, hF⟩ : ∃ F, F = D ++ E.take (65536 - D.length) := ⟨_, rfl⟩
  rw [← hF] at hN ⊢
  have HF := Lib.hid hF
  clear hF
  have hfin := fun w3 w4 s3 s4 => rleaves_more (w3 := w3) (w4 := w4) (s3 := s3) (s4 := s4) h hN
  obtain ⟨A0, cap, hs⟩ := h.own.shape
  subst hs
  have hrow := h.own.rd
  have HDD := Lib.hid (rfl : D.length = D.length)
  have HFIN := Lib.hid hfin; have HK := Lib.hid hK; have HKE := Lib.hid hKE; have HL2 := Lib.hid hl2; have HL1 := Lib.hid hl1; have HRD := Lib.hid hrd; have HROW := Lib.hid hrow; have HBS := Lib.hid hbase; have HB2 := Lib.hid hb2
  have hwr : IntKind.i64.wrap (65536 - (D.length : Int)) = 65536 - (D.length : Int) := by rw [IntKind.wrap_i64]; omega
  clear hfin hK hKE hl2 hl1 hrd hN hrow hbase hb2 h hr hE
  go_enter Tryz.func83, Tryz.ntmps83
  go_upto_region 0 with (fail)
  go_cut [4] from 5 to 13 (fun s wx => s = .int .i64 (K : Nat) ∧ w = wx)
  case first =>
    by_cases hle : E.length ≤ 65536 - D.length
    · go_wp2_with fail
      go_meet
      refine ⟨?_, rfl⟩
      have := HKE.out
      show Value.int _ _ = _
      congr 1
      omega
    · go_wp2_with fail
      go_meet
      refine ⟨?_, rfl⟩
      have := HKE.out
      show Value.int _ _ = _
      congr 1
      omega
  case rest =>
    obtain ⟨rfl, rfl⟩ := hcut
    have hk0 : (0 : Int) ≤ (K : Int) := by omega
    have hkc : (K : Int) ≤ (c : Int) := by omega
    go_upto_region 1 with (fail)
    go_region_law (first
      | ((refine step_append_row (base := base) (v := .slice none 0 0) (D := []) rfl _ _ rfl (by rfl) (row_nil _ _) HBS.out _ (by rfl) HDD.out HROW.out.drew HL1.out ?_; intro v3 w3 hr3 ht3 ho3; rw [List.nil_append] at hr3; obtain ⟨A3, cap3, hv3⟩ := hr3.shape; subst hv3; (have c3 : w3.cell? ⟨R, 1, none⟩ = some (.slice A0 D.length cap) := (ht3.cell hlt (by simp [Value.ownBlock])).trans c2); (have f3 : w3.frozen? ⟨R, 1, none⟩ = false := (ht3.frozen hlt (by simp [Value.ownBlock])).trans f2)))
      | ((refine step_append_row (base := base) (v := .slice A3 D.length cap3) (D := D) rfl _ _ rfl (by rfl) hr3 (Nat.le_trans HBS.out ht3.size) _ (by rfl) HK.out (HRD.out.drew.kept ht3 HB2.out (fun k _ => by simp [Value.ownBlock])) HL2.out ?_; intro v4 w4 hr4 ht4 ho4; rw [← HF.out] at hr4; obtain ⟨A4, cap4, hv4⟩ := hr4.shape; subst hv4; (have hn3 := own_not ho3 hlt); (have hl3 := Nat.lt_of_lt_of_le hlt ht3.size); (have c4 : w4.cell? ⟨R, 1, none⟩ = some (.slice A0 D.length cap) := (ht4.cell hl3 hn3).trans c3); (have f4 : w4.frozen? ⟨R, 1, none⟩ = false := (ht4.frozen hl3 hn3).trans f3))))
    all_goals
      go_end0
      exact ⟨rfl, HFIN.out _ _ _ _ ht3 ho3 hr4 ht4 ho4⟩
def RMade (w : World) (T most : Nat) (D : List Nat) (e : Ending) (w' : World) : Prop := ∃ R s, e = .returned (Pt R) ∧ w.heap.size ≤ R ∧ RefAt w' w.heap.size R T most s D ∧ Below w.heap.size w w'
theorem rmade_new {w w' : World} {most : Nat} {F : List Nat} {s : Value} (l : RLeaves (w.alloc (.cells #[.int .u64 0, .slice none 0 0, .int .u64 most] 108)) w' w.heap.size w.heap.size 0 most s F) : RMade w 0 most F (.returned (Pt w.heap.size)) w' := by
  obtain ⟨s', h, _, t⟩ := l
  exact ⟨_, s', rfl, Nat.le_refl _, h, ((Below.refl _ _).alloc (Nat.le_refl _) _).trans (t.below (by simp) (fun k hk e => by omega))⟩
set_option maxHeartbeats 1000000 in
theorem rnew_any {w : World} {b2 : Nat} {A : Option Addr} {D : List Nat} (c most : Nat) (hn : D.length ≤ c) (hc : c ≤ 9223372036854775807) (hm : most ≤ 18446744073709551615) (hr : Rd w b2 A D) (hb2 : b2 ≤ w.heap.size) (hD : ∀ d ∈ D, d ≤ 18446744073709551615) :
    Calls Tryz.prog 38 #[.slice A D.length c, .int .u64 most] w (RMade w 0 most (D.take 65536)) := by
  have ba : Below w.heap.size w (w.alloc (.cells #[.int .u64 0, .slice none 0 0, .int .u64 most] 108)) := (Below.refl _ _).alloc (Nat.le_refl _) _
  have r0 : RefAt (w.alloc (.cells #[.int .u64 0, .slice none 0 0, .int .u64 most] 108)) w.heap.size w.heap.size 0 most (.slice none 0 0) [] :=
    ⟨⟨by omega, hm, by simp, by simp⟩, heap_alloc_new w _, row_nil _ _, by simp [Value.ownBlock]⟩
  have hmo := rmore_any r0 (by simp) c hn hc (hr.below ba hb2) (Nat.le_trans hb2 ba.size) hD
  simp only [List.nil_append, List.length_nil, Nat.sub_zero] at hmo
  have hfin := fun w' s => rmade_new (w := w) (w' := w') (most := most) (F := D.take 65536) (s := s)
  have HMO := Lib.hid hmo; have HFIN := Lib.hid hfin
  clear hmo hfin ba r0 hr hD
  generalize D.take 65536 = F at *
  go_enter Tryz.func38, Tryz.ntmps38
  go_wp2_with (first
    | (go_at_call 83; refine HMO.out.mono ?_; rintro e w1 ⟨rfl, hl⟩))
  go_ret
  exact HFIN.out _ _ hl
end Go.Proofs.YtdodloannlfnlaaGreat.S3
namespace Go.Proofs.YtdodloannlfnlaaGreat.S10
open Go.Proofs.YtdodloannlfnlaaGreat
open Go.RowKit

section
variable {w : World} {s : Value} {F : Int → Value} {M : Int → List Bk}
theorem grow_no (h : Rs w s F M) {fr tg : Int} (hf : InI fr) (ht : InI tg) (now : Int) (hno : M fr = [] ∨ tg ≤ fr ∨ 8 < tg ∨ M tg ≠ []) :
    Calls Tryz.prog 14 #[s, .int .i64 fr, .int .i64 tg, .int .u64 now] w fun e w' => e = .returned (.bool false) ∧ w = w' := by
  obtain ⟨A, c, V, h1, -⟩ := h.rd fr
  obtain ⟨A2, c2, V2, h2, -⟩ := h.rd tg
  have HF := has_any h.sv hf h1
  have HT := has_any h.sv ht h2
  by_cases e0 : M fr = []
  · rw [e0] at HF
    have hf0 : decide (0 < ([] : List Bk).length) = false := by decide
    rw [hf0] at HF
    have HF := Lib.hid HF
    clear h h1 h2 HT
    go_enter Tryz.func14, Tryz.ntmps14
    go_wp2_with (go_at_call 50; refine HF.out.mono ?_; rintro e w' ⟨rfl, rfl⟩)
    go_ret
    exact ⟨rfl, rfl⟩
  · have hf1 : decide (0 < (M fr).length) = true := by simpa using List.length_pos_iff.2 e0
    rw [hf1] at HF
    have HF := Lib.hid HF
    by_cases e1 : tg ≤ fr
    · have d1 : decide (tg ≤ fr) = true := by simpa using e1
      clear h h1 h2 HT
      go_enter Tryz.func14, Tryz.ntmps14
      go_wp2_with (go_at_call 50; refine HF.out.mono ?_; rintro e w' ⟨rfl, rfl⟩)
      go_ret
      exact ⟨rfl, rfl⟩
    · have d1 : decide (tg ≤ fr) = false := by simpa using e1
      by_cases e2 : 8 < tg
      · have d2 : decide (8 < tg) = true := by simpa using e2
        clear h h1 h2 HT
        go_enter Tryz.func14, Tryz.ntmps14
        go_wp2_with (go_at_call 50; refine HF.out.mono ?_; rintro e w' ⟨rfl, rfl⟩)
        go_ret
        exact ⟨rfl, rfl⟩
      · have d2 : decide (8 < tg) = false := by simpa using e2
        have e3 : M tg ≠ [] := by
          rcases hno with h | h | h | h
          · exact absurd h e0
          · exact absurd h e1
          · exact absurd h e2
          · exact h
        have hf2 : decide (0 < (M tg).length) = true := by simpa using List.length_pos_iff.2 e3
        rw [hf2] at HT
        have HT := Lib.hid HT
        clear h h1 h2
        go_enter Tryz.func14, Tryz.ntmps14
        go_wp2_with (first
          | (go_at_call 50; ((with_reducible refine HF.out.mono ?_)); rintro e w' ⟨rfl, rfl⟩)
          | (go_at_call 50; ((with_reducible refine HT.out.mono ?_)); rintro e w' ⟨rfl, rfl⟩))
        go_ret
        exact ⟨rfl, rfl⟩
end
open Classical in
theorem own_new (own : Nat → Option Role) (New : Nat → Role → Prop) (Drop : Nat → Prop) (X : Nat) (hfun : ∀ x r r', New x r → New x r' → r = r') (hnew : ∀ x r, New x r → X ≤ x) (hold : ∀ x r, own x = some r → x < X) :
    ∃ own' : Nat → Option Role, (∀ x r, New x r → own' x = some r) ∧ (∀ x r, own x = some r → ¬ Drop x → own' x = some r) ∧ (∀ x r, own' x = some r → own x = some r ∨ New x r) := by
  refine ⟨fun x => if h : ∃ r, New x r then some h.choose else if Drop x then none else own x, fun x r h => ?_, fun x r h hd => ?_, fun x r h => ?_⟩
  · have hx : ∃ r, New x r := ⟨r, h⟩
    dsimp only
    rw [dif_pos hx, hfun x _ _ hx.choose_spec h]
  · have hx : ¬ ∃ r, New x r := fun ⟨r', h'⟩ => by
      have := hnew x r' h'; have := hold x r h; omega
    dsimp only
    rw [dif_neg hx, if_neg hd, h]
  · dsimp only at h
    by_cases hx : ∃ r, New x r
    · rw [dif_pos hx] at h
      cases h
      exact .inr hx.choose_spec
    · rw [dif_neg hx] at h
      split at h
      · cases h
      · exact .inl h
section
variable {w : World} {base : Nat} {own : Nat → Option Role} {s : Value} {n : Nat} {M : Int → List Bk}
def grown (M : Int → List Bk) (h : Nat → Nat) (N : Nat) (fr tg now : Int) : Int → List Bk :=
  upd (upd M fr (hollow (M fr))) tg (fresh now (reh h N ((M fr).map Bk.q).flatten))
set_option maxHeartbeats 4000000 in
set_option maxRecDepth 20000 in
theorem grow_yes (hst : St w base own s n M) {fr tg : Int} (hf : InI fr) (ht : InI tg) (now : Int) (h0 : M fr ≠ []) (h1 : fr < tg) (h2 : tg ≤ 8) (h3 : M tg = []) {N : Nat} {h : Nat → Nat} (K : Kit tg N h)
    (hl : (M fr).length ≤ 256) (hkeys : Keys ((M fr).map Bk.q).flatten) (hfew : ((M fr).map Bk.q).flatten.length ≤ 100000) (hn9 : n < 1000000) :
    Calls Tryz.prog 14 #[s, .int .i64 fr, .int .i64 tg, .int .u64 now] w fun e w' => e = .returned (.bool true) ∧ ∃ own', St w' base own' s (n + 1) (grown M h N fr tg now) ∧ Turns (Mine own) w w' ∧ Fresh own own' w := by
  obtain ⟨sb, mb, F, V, H⟩ := hst
  obtain rfl := H.hs
  have hpos : 0 < (M fr).length := List.length_pos_iff.2 h0
  obtain ⟨g, o, c, hF, hog, -⟩ := H.bk (b := fr) (i := 0) hpos
  have HFR := has_any H.rs.sv hf hF
  obtain ⟨A2, c2, V2, hF2, -⟩ := H.rs.rd tg
  have HTO := has_any H.rs.sv ht hF2
  have hd0 : decide (0 < (M fr).length) = true := by simpa using hpos
  have hd1 : decide (0 < (M tg).length) = false := by rw [h3]; decide
  rw [hd0] at HFR
  rw [hd1] at HTO
  have HFR := Lib.hid HFR; have HTO := Lib.hid HTO
  have d1 : decide (tg ≤ fr) = false := by simpa using h1
  have d2 : decide (8 < tg) = false := by simpa using h2
  obtain ⟨m, hm⟩ : ∃ m, m = (M fr).length := ⟨_, rfl⟩
  obtain ⟨E, hE⟩ : ∃ E, E = ((M fr).map Bk.q).flatten := ⟨_, rfl⟩
  rw [← hm] at hF hl hpos
  have hgm : g ≠ mb := H.ne hog H.om (by simp)
  have hgs : g ≠ sb := H.ne hog H.os (by simp)
  have hms : mb ≠ sb := H.ne H.om H.os (by simp)
  have hglt := (H.fp g _ hog).2
  have hmlt := (H.fp mb _ H.om).2
  have hslt := (H.fp sb _ H.os).2
  -- what is held
  have hS0 : ((w.drew.cell? ⟨sb, 0, none⟩ = some (.map (some mb)) ∧ (Instr.lookup 152 (.map (some mb)) (.int .i64 fr) false).run Tryz.prog w.drew = .ok (.slice (some ⟨g, o, none⟩) m c) w.drew)) := ⟨cell_row H.hc 0, by
    have := MapAt.look (w := w.drew) (mb := mb) (n := n) (F := F) (H.hm.keep (Turns.refl (fun _ => False) w).drew (fun h => h)) hf
    rw [hF] at this
    exact this⟩
  have hSw : ∀ w', Turns (fun x => x = g) w.drew w' → w'.cell? ⟨sb, 0, none⟩ = some (.map (some mb)) ∧ MapAt w' mb n F := fun w' t =>
    ⟨(t.cell (g := sb) (o := 0) hslt (fun e => hgs e.symm)).trans (cell_row H.hc 0), (H.hm.keep (Turns.refl (fun _ => False) w).drew (fun h => h)).keep t (fun e => hgm e.symm)⟩
  have HS1 : Hid (∀ w', Turns (fun x => x = g) w.drew w' → ((w'.cell? ⟨sb, 0, none⟩ = some (.map (some mb)) ∧ (Instr.lookup 152 (.map (some mb)) (.int .i64 fr) false).run Tryz.prog w' = .ok (.slice (some ⟨g, o, none⟩) m c) w'))) := Lib.hid fun w' t => ⟨(hSw w' t).1, by have := (hSw w' t).2.look hf; rwa [hF] at this⟩
  have hbelow : ∀ w1 w2, Turns (fun x => x = g) w.drew w1 → Below w1.heap.size w1 w2 → Turns (fun x => x = g) w.drew w2 := fun w1 w2 t b => t.trans (Turns.of_below (S := fun x => x = g) b) (fun k _ e => e)
  have HS2 : Hid (∀ w1 w2, Turns (fun x => x = g) w.drew w1 → Below w1.heap.size w1 w2 → ((w2.cell? ⟨sb, 0, none⟩ = some (.map (some mb)) ∧ (Instr.lookup 152 (.map (some mb)) (.int .i64 fr) false).run Tryz.prog w2 = .ok (.slice (some ⟨g, o, none⟩) m c) w2))) := Lib.hid fun w1 w2 t b => HS1.out w2 (hbelow w1 w2 t b)
  have HS3 : Hid (∀ w1 w2 w3, Turns (fun x => x = g) w.drew w1 → Below w1.heap.size w1 w2 → Below w2.heap.size w2 w3 → MapAt w3 mb n F ∧ ((w3.cell? ⟨sb, 0, none⟩ = some (.map (some mb)) ∧ (Instr.lookup 152 (.map (some mb)) (.int .i64 fr) false).run Tryz.prog w3 = .ok (.slice (some ⟨g, o, none⟩) m c) w3))) := Lib.hid fun w1 w2 w3 t b b' => ⟨(hSw w3 (hbelow w2 w3 (hbelow w1 w2 t b) b')).2, HS1.out w3 (hbelow w2 w3 (hbelow w1 w2 t b) b')⟩
  have HS4 : Hid (∀ w1 w2 w3 w4 (v : Value), Turns (fun x => x = g) w.drew w1 → Below w1.heap.size w1 w2 → Below w2.heap.size w2 w3 → MapAt w4 mb (n + 1) (upd F tg v) → w3.grownBy w4 (some mb) → ((w4.cell? ⟨sb, 0, none⟩ = some (.map (some mb)) ∧ (Instr.lookup 152 (.map (some mb)) (.int .i64 fr) false).run Tryz.prog w4 = .ok (.slice (some ⟨g, o, none⟩) m c) w4))) := Lib.hid fun w1 w2 w3 w4 v t b b' hm4 hg4 => by
    have t3 := hbelow w2 w3 (hbelow w1 w2 t b) b'
    refine ⟨((grown_turns hg4).cell (g := sb) (o := 0) (Nat.lt_of_lt_of_le hslt t3.size) (fun e => hms (by simpa using e))).trans (hSw w3 t3).1, ?_⟩
    have := hm4.look hf
    rwa [upd_ne _ _ (by omega), hF] at this
  -- the calls
  have hVs : ∀ i, i < m → ∃ A' q c', V fr i = .slice A' q c' := fun i hi => by
    obtain ⟨A', c', e, _⟩ := (H.hq fr i (by omega)).shape
    exact ⟨A', _, c', e⟩
  have hrow := H.ht fr
  rw [hF, ← hm] at hrow
  have HE := Lib.hid (emptied_any (w := w.drew) hrow.drew hm.symm hVs (by omega))
  have HRE : Hid (∀ w1 g2, g2 < w1.heap.size → Lies w1 g2 0 ((List.range m).map (V fr)) → Turns (fun x => x = g) w.drew w1 → Calls Tryz.prog 52 #[.slice (some ⟨g2, 0, none⟩) m m, .int .i64 tg] w1 fun e w' => ∃ s ss, e = .returned s ∧ Tab w' w1.heap.size s ss (reh h N E) ∧ (∀ i, i < N → ∃ A' m, ss[i]? = some (.slice A' m m)) ∧ Below w1.heap.size w1 w') := Lib.hid fun w1 g2 hg2 hl2 t => by
    have hq : Qs w1 w1.heap.size (some ⟨g2, 0, none⟩) ((M fr).map Bk.q) := by
      refine ⟨(List.range m).map (V fr), by simp [hm], fun _ => ⟨g2, 0, rfl, hg2, hl2⟩, fun i hi => ?_⟩
      rw [List.length_map] at hi
      have hqi := (H.hq fr i hi).keep ((Turns.refl (fun x => x = g) w).drew.trans t (fun _ _ e => e)) (fun x e e2 => H.ne (H.oq fr i x hi e) hog (by simp) e2)
      obtain ⟨A', c', e, k1, k2⟩ := hqi.shape
      have e3 : ((M fr).map Bk.q)[i]! = (M fr)[i]!.q := by
        rw [getElem!_pos _ i (by rw [List.length_map]; exact hi), getElem!_pos _ i hi]
        simp
      rw [e3]
      refine ⟨A', c', by rw [List.getElem?_map, List.getElem?_range (by omega)]; exact congrArg some e, k1, k2, ?_⟩
      rw [e] at hqi
      exact hqi.rd
    have := rehash_all (c := m) K hq (Nat.le_refl _) (by rw [List.length_map]; omega) (by omega) hkeys (by rw [List.length_map]; omega) hfew
    rw [List.length_map, ← hm, ← hE] at this
    exact this
  have HBE : Hid (∀ w2 A2 c2 ss, Tab w2 (w2.heap.size) (.slice A2 (reh h N E).length c2) ss (reh h N E) → True) := Lib.hid fun _ _ _ _ _ => trivial
  have HH := Lib.hid H; have HM := Lib.hid hm; have HOG := Lib.hid hog; have HF0 := Lib.hid hF
  clear HBE
  have HBE : Hid (∀ w2 b2 A2 c2 ss, Tab w2 b2 (.slice A2 (reh h N E).length c2) ss (reh h N E) → (∀ i, i < N → ∃ A' m, ss[i]? = some (.slice A' m m)) → Calls Tryz.prog 51 #[.slice A2 N c2, .int .u64 now] w2 fun e w' => ∃ g, e = .returned (.slice (some ⟨g, 0, none⟩) N N) ∧ w2.heap.size ≤ g ∧ Row w' w2.heap.size 3 (.slice (some ⟨g, 0, none⟩) N N) N (bflat (fresh now (reh h N E)) (fun i => (ss[i]?).getD nilS)) ∧ Below w2.heap.size w2 w') := Lib.hid fun w2 b2 A2 c2 ss htab hss => by
    refine begun_any (reh h N E) now htab.row.rd (Nat.le_refl _) (by rw [htab.len, reh_len]) (reh_len _ _ _) (fun i hi => ?_) (by have := K.few; omega)
    obtain ⟨A', m, e⟩ := hss i hi
    exact ⟨A', m, m, e⟩
  clear hrow hVs hSw hbelow hm hog hF H
  have hS0' := hS0
  have ht9 := ht
  go_enter Tryz.func14, Tryz.ntmps14
  go_upto_region 3 with (first
    | (go_at_call 50; ((with_reducible refine HFR.out.mono ?_)); rintro e w' ⟨rfl, rfl⟩)
    | (go_at_call 50; ((with_reducible refine HTO.out.mono ?_)); rintro e w' ⟨rfl, rfl⟩))
  refine wp_region_held_drew (S := fun w' => w'.cell? ⟨sb, 0, none⟩ = some (.map (some mb)) ∧ (Instr.lookup 152 (.map (some mb)) (.int .i64 fr) false).run Tryz.prog w' = .ok (.slice (some ⟨g, o, none⟩) m c) w') (by kernel_rfl) ?_ (fun hHeld => ?_)
  · exact hS0'
  refine wpAnyH_take (i := 0) (oi := ({ dst := some 27, op := Op.move (Operand.tmp 0), type := 56, pos := "tables.go:85", after := #[], guard := none } : Oper)) (v := ?v0) rfl (by kernel_rfl) (by kernel_rfl) (by kernel_rfl) (fun _ _ _ h => h) (Or.inl ⟨by rfl, fun w hSw => ?hy0⟩) (by assumption) ?r0
  case hy0 => (try dsimp only at hSw); go_simp; (try with_reducible rfl)
  (try simp only [Act.put, List.setIfInBounds_toArray, List.set_cons_zero, List.set_cons_succ])
  refine wpAnyH_take (i := 1) (oi := ({ dst := some 28, op := Op.nilCheck (Operand.tmp 27), type := 0, pos := "tables.go:85", after := #[{ on := 0, ground := Ground.data }], guard := none } : Oper)) (v := ?v1) rfl (by kernel_rfl) (by kernel_rfl) (by kernel_rfl) (fun _ _ _ h => h) (Or.inl ⟨by rfl, fun w hSw => ?hy1⟩) (by assumption) ?r1
  case hy1 => (try dsimp only at hSw); go_simp; (try with_reducible rfl)
  (try simp only [Act.put, List.setIfInBounds_toArray, List.set_cons_zero, List.set_cons_succ])
  refine wpAnyH_take (i := 2) (oi := ({ dst := some 29, op := Op.fieldAddr 154 (Operand.tmp 28) 0, type := 0, pos := "tables.go:85", after := #[{ on := 1, ground := Ground.data }], guard := none } : Oper)) (v := ?v2) rfl (by kernel_rfl) (by kernel_rfl) (by kernel_rfl) (fun _ _ _ h => h) (Or.inl ⟨by rfl, fun w hSw => ?hy2⟩) (by assumption) ?r2
  case hy2 => (try dsimp only at hSw); go_simp; (try with_reducible rfl)
  (try simp only [Act.put, List.setIfInBounds_toArray, List.set_cons_zero, List.set_cons_succ])
  refine wpAnyH_take (i := 3) (oi := ({ dst := some 30, op := Op.load 152 (Operand.tmp 29), type := 152, pos := "tables.go:85", after := #[{ on := 2, ground := Ground.data }], guard := none } : Oper)) (v := ?v3) rfl (by kernel_rfl) (by kernel_rfl) (by kernel_rfl) (fun _ _ _ h => h) (Or.inl ⟨by rfl, fun w hSw => ?hy3⟩) (by assumption) ?r3
  case hy3 => (try dsimp only at hSw); go_simp; (try with_reducible rfl)
  (try simp only [Act.put, List.setIfInBounds_toArray, List.set_cons_zero, List.set_cons_succ])
  refine wpAnyH_take (i := 4) (oi := ({ dst := some 31, op := Op.move (Operand.tmp 2), type := 3, pos := "tables.go:85", after := #[], guard := none } : Oper)) (v := ?v4) rfl (by kernel_rfl) (by kernel_rfl) (by kernel_rfl) (fun _ _ _ h => h) (Or.inl ⟨by rfl, fun w hSw => ?hy4⟩) (by assumption) ?r4
  case hy4 => (try dsimp only at hSw); go_simp; (try with_reducible rfl)
  (try simp only [Act.put, List.setIfInBounds_toArray, List.set_cons_zero, List.set_cons_succ])
  refine wpAnyH_take (i := 5) (oi := ({ dst := some 32, op := Op.move (Operand.tmp 0), type := 56, pos := "tables.go:85", after := #[], guard := none } : Oper)) (v := ?v5) rfl (by kernel_rfl) (by kernel_rfl) (by kernel_rfl) (fun _ _ _ h => h) (Or.inl ⟨by rfl, fun w hSw => ?hy5⟩) (by assumption) ?r5
  case hy5 => (try dsimp only at hSw); go_simp; (try with_reducible rfl)
  (try simp only [Act.put, List.setIfInBounds_toArray, List.set_cons_zero, List.set_cons_succ])
  refine wpAnyH_take (i := 6) (oi := ({ dst := some 33, op := Op.nilCheck (Operand.tmp 32), type := 0, pos := "tables.go:85", after := #[{ on := 5, ground := Ground.data }], guard := none } : Oper)) (v := ?v6) rfl (by kernel_rfl) (by kernel_rfl) (by kernel_rfl) (fun _ _ _ h => h) (Or.inl ⟨by rfl, fun w hSw => ?hy6⟩) (by assumption) ?r6
  case hy6 => (try dsimp only at hSw); go_simp; (try with_reducible rfl)
  (try simp only [Act.put, List.setIfInBounds_toArray, List.set_cons_zero, List.set_cons_succ])
  refine wpAnyH_take (i := 7) (oi := ({ dst := some 34, op := Op.fieldAddr 154 (Operand.tmp 33) 0, type := 0, pos := "tables.go:85", after := #[{ on := 6, ground := Ground.data }], guard := none } : Oper)) (v := ?v7) rfl (by kernel_rfl) (by kernel_rfl) (by kernel_rfl) (fun _ _ _ h => h) (Or.inl ⟨by rfl, fun w hSw => ?hy7⟩) (by assumption) ?r7
  case hy7 => (try dsimp only at hSw); go_simp; (try with_reducible rfl)
  (try simp only [Act.put, List.setIfInBounds_toArray, List.set_cons_zero, List.set_cons_succ])
  refine wpAnyH_take (i := 8) (oi := ({ dst := some 35, op := Op.load 152 (Operand.tmp 34), type := 152, pos := "tables.go:85", after := #[{ on := 7, ground := Ground.data }], guard := none } : Oper)) (v := ?v8) rfl (by kernel_rfl) (by kernel_rfl) (by kernel_rfl) (fun _ _ _ h => h) (Or.inl ⟨by rfl, fun w hSw => ?hy8⟩) (by assumption) ?r8
  case hy8 => (try dsimp only at hSw); go_simp; (try with_reducible rfl)
  (try simp only [Act.put, List.setIfInBounds_toArray, List.set_cons_zero, List.set_cons_succ])
  refine wpAnyH_take (i := 9) (oi := ({ dst := some 36, op := Op.move (Operand.tmp 1), type := 3, pos := "tables.go:85", after := #[], guard := none } : Oper)) (v := ?v9) rfl (by kernel_rfl) (by kernel_rfl) (by kernel_rfl) (fun _ _ _ h => h) (Or.inl ⟨by rfl, fun w hSw => ?hy9⟩) (by assumption) ?r9
  case hy9 => (try dsimp only at hSw); go_simp; (try with_reducible rfl)
  (try simp only [Act.put, List.setIfInBounds_toArray, List.set_cons_zero, List.set_cons_succ])
  refine wpAnyH_take (i := 10) (oi := ({ dst := some 37, op := Op.lookup 152 (Operand.tmp 35) (Operand.tmp 36) false, type := 147, pos := "tables.go:85", after := #[{ on := 8, ground := Ground.data }, { on := 9, ground := Ground.data }], guard := none } : Oper)) (v := ?v10) rfl (by kernel_rfl) (by kernel_rfl) (by kernel_rfl) (fun _ _ _ h => h) (Or.inl ⟨by rfl, fun w hSw => ?hy10⟩) (by assumption) ?r10
  case hy10 => (try dsimp only at hSw); go_simp; (try with_reducible rfl)
  (try simp only [Act.put, List.setIfInBounds_toArray, List.set_cons_zero, List.set_cons_succ])
  refine wpAnyH_take (i := 12) (oi := ({ dst := some 39, op := Op.move (Operand.tmp 2), type := 3, pos := "tables.go:85", after := #[], guard := none } : Oper)) (v := ?v12) rfl (by kernel_rfl) (by kernel_rfl) (by kernel_rfl) (fun _ _ _ h => h) (Or.inl ⟨by rfl, fun w hSw => ?hy12⟩) (by assumption) ?r12
  case hy12 => (try dsimp only at hSw); go_simp; (try with_reducible rfl)
  (try simp only [Act.put, List.setIfInBounds_toArray, List.set_cons_zero, List.set_cons_succ])
  refine wpAnyH_take (i := 14) (oi := ({ dst := some 41, op := Op.move (Operand.tmp 3), type := 27, pos := "tables.go:85", after := #[], guard := none } : Oper)) (v := ?v14) rfl (by kernel_rfl) (by kernel_rfl) (by kernel_rfl) (fun _ _ _ h => h) (Or.inl ⟨by rfl, fun w hSw => ?hy14⟩) (by assumption) ?r14
  case hy14 => (try dsimp only at hSw); go_simp; (try with_reducible rfl)
  (try simp only [Act.put, List.setIfInBounds_toArray, List.set_cons_zero, List.set_cons_succ])
  refine wpAnyH_ready (rs := [11]) (by kernel_rfl) (by simp) ?_
  refine AllReadyH.cons (o := ({ dst := some 38, op := Op.call { callee := Callee.value (Operand.func 53), args := #[Operand.tmp 37], argTypes := #[147] }, type := 149, pos := "tables.go:85", after := #[{ on := 10, ground := Ground.data }], guard := none } : Oper)) rfl (fun Kq hKq => ?_) AllReadyH.nil
  go_simp
  (refine HE.out.mono ?_; rintro e w1 ⟨g2, rfl, hg2, hg2l, hl2, hr1, ht1⟩; (have HRE2 := Lib.hid (HRE.out w1 g2 hg2l hl2 ht1)); (have HL2 := Lib.hid hl2); (have HR1 := Lib.hid hr1); (have HT1 := Lib.hid ht1); (clear hl2 hr1))
  refine hKq.out _ _ ?_ (fun hHeld => ?_)
  · exact HS1.out w1 ht1
  clear hKq Kq
  (try simp only [Act.put, List.setIfInBounds_toArray, List.set_cons_zero, List.set_cons_succ])
  refine wpAnyH_ready (rs := [13]) (by kernel_rfl) (by simp) ?_
  refine AllReadyH.cons (o := ({ dst := some 40, op := Op.call { callee := Callee.value (Operand.func 52), args := #[Operand.tmp 38, Operand.tmp 39], argTypes := #[149, 3] }, type := 149, pos := "tables.go:85", after := #[{ on := 11, ground := Ground.data }, { on := 12, ground := Ground.data }, { on := 11, ground := Ground.chain }], guard := none } : Oper)) rfl (fun Kq hKq => ?_) AllReadyH.nil
  go_simp
  (refine HRE2.out.mono ?_; rintro e w2 ⟨s2, ss, rfl, htab, hss, hb2⟩; (obtain ⟨A2, c2, rfl, hc2, hc29⟩ := htab.shape); (rw [reh_len]); (have HTAB := Lib.hid htab); (have HSS := Lib.hid hss); (have HB2 := Lib.hid hb2); (have HBG := Lib.hid (HBE.out w2 w1.heap.size A2 c2 ss htab hss)); (clear htab hss hc2 hc29))
  refine hKq.out _ _ ?_ (fun hHeld => ?_)
  · exact HS2.out w1 w2 HT1.out hb2
  clear hKq Kq
  (try simp only [Act.put, List.setIfInBounds_toArray, List.set_cons_zero, List.set_cons_succ])
  refine wpAnyH_ready (rs := [15]) (by kernel_rfl) (by simp) ?_
  refine AllReadyH.cons (o := ({ dst := some 42, op := Op.call { callee := Callee.value (Operand.func 51), args := #[Operand.tmp 40, Operand.tmp 41], argTypes := #[149, 27] }, type := 147, pos := "tables.go:85", after := #[{ on := 13, ground := Ground.data }, { on := 14, ground := Ground.data }, { on := 13, ground := Ground.chain }], guard := none } : Oper)) rfl (fun Kq hKq => ?_) AllReadyH.nil
  go_simp
  (refine HBG.out.mono ?_; rintro e w3 ⟨g3, rfl, hg3, hr3, hb3⟩; (have HR3 := Lib.hid hr3); (have HB3 := Lib.hid hb3); (have HG3 := Lib.hid hg3); (obtain ⟨hm3, hs3⟩ := HS3.out w1 w2 w3 HT1.out HB2.out hb3); (clear hr3 hg3))
  refine hKq.out _ _ ?_ (fun hHeld => ?_)
  · exact hs3
  clear hKq Kq
  (try simp only [Act.put, List.setIfInBounds_toArray, List.set_cons_zero, List.set_cons_succ])
  refine wpAnyH_ready (rs := [16]) (by kernel_rfl) (by simp) ?_
  refine AllReadyH.cons (o := ({ dst := none, op := Op.mapUpdate 152 (Operand.tmp 30) (Operand.tmp 31) (Operand.tmp 42), type := 0, pos := "tables.go:85", after := #[{ on := 3, ground := Ground.data }, { on := 4, ground := Ground.data }, { on := 15, ground := Ground.data }, { on := 15, ground := Ground.chain }, { on := 0, ground := Ground.phase }, { on := 1, ground := Ground.phase }, { on := 2, ground := Ground.phase }, { on := 3, ground := Ground.phase }, { on := 4, ground := Ground.phase }, { on := 5, ground := Ground.phase }, { on := 6, ground := Ground.phase }, { on := 7, ground := Ground.phase }, { on := 8, ground := Ground.phase }, { on := 9, ground := Ground.phase }, { on := 10, ground := Ground.phase }, { on := 11, ground := Ground.phase }, { on := 12, ground := Ground.phase }, { on := 13, ground := Ground.phase }, { on := 14, ground := Ground.phase }, { on := 15, ground := Ground.phase }], guard := none } : Oper)) rfl (fun Kq hKq => ?_) AllReadyH.nil
  (obtain ⟨w4, hrun, hm4, hg4⟩ := hm3.put hn9 ht9 (.slice (some ⟨g3, 0, none⟩) N N)); go_simp
  refine hKq.out _ _ ?_ (fun hHeld => ?_)
  · exact HS4.out w1 w2 w3 w4 _ HT1.out HB2.out HB3.out hm4 hg4
  clear hKq Kq
  (try simp only [Act.put, List.setIfInBounds_toArray, List.set_cons_zero, List.set_cons_succ])
  refine wpAnyH_done (by kernel_rfl) ?_ _
  have HM4 := Lib.hid hm4; have HG4 := Lib.hid hg4
  clear hm4 hg4 hHeld hrun hm3 hs3 ht1
  go_wp2_with fail
  go_ret
  refine ⟨rfl, ?_⟩
  have H := HH.out
  have hog := HOG.out; have hm := HM.out; have hF := HF0.out
  -- the worlds, one behind the other
  have t1 : Turns (fun x => x = g ∨ x = mb) w1 w1 := Turns.refl _ _
  have t01 : Turns (fun x => x = g) w w1 := (Turns.refl (fun x => x = g) w).drew.trans HT1.out (fun _ _ e => e)
  have b13 : Below w1.heap.size w1 w3 := HB2.out.trans (HB3.out.mono HB2.out.size)
  have g34 := grown_turns HG4.out
  have t14 : Turns (fun x => some mb = some x) w1 w4 := (Turns.of_below b13).trans g34 (fun _ _ e => e)
  have t24 : Turns (fun x => some mb = some x) w2 w4 := (Turns.of_below HB3.out).trans g34 (fun _ _ e => e)
  have t04 : Turns (fun x => x = g ∨ x = mb) w w4 := (t01.mono (fun _ _ e => .inl e)).trans t14 (fun _ _ e => .inr (by simpa using e.symm))
  have s01 := t01.size; have s12 := HB2.out.size; have s23 := HB3.out.size; have s34 := g34.size
  have hg3 := HG3.out
  have htab := HTAB.out
  have hss := HSS.out
  have hg3l := (HR3.out.lt g3 rfl).2
  have hsl : ∀ (i : Nat) (v : Value) (x : Nat), ss[i]? = some v → v.ownBlock = some x → w1.heap.size ≤ x ∧ x < w2.heap.size := fun i v x hv e => htab.lt hv e
  let New : Nat → Role → Prop := fun x r => (x = g3 ∧ r = .tab tg) ∨ ∃ i v, ss[i]? = some v ∧ v.ownBlock = some x ∧ r = .q tg i
  have hfun : ∀ x r r', New x r → New x r' → r = r' := fun x r r' h h' => by
    rcases h with ⟨rfl, rfl⟩ | ⟨i, v, hv, e, rfl⟩
    · rcases h' with ⟨_, rfl⟩ | ⟨i, v, hv, e, rfl⟩
      · rfl
      · have := hsl i v x hv e; omega
    · rcases h' with ⟨rfl, rfl⟩ | ⟨j, v', hv', e', rfl⟩
      · have := hsl i v x hv e; omega
      · rw [htab.apart i j v v' x hv hv' e e']
  have hnew : ∀ x r, New x r → w.heap.size ≤ x := fun x r h => by
    rcases h with ⟨rfl, rfl⟩ | ⟨i, v, hv, e, rfl⟩
    · omega
    · have := hsl i v x hv e; omega
  obtain ⟨own', o1, o2, o3⟩ := own_new own New (fun x => ∃ i, own x = some (.q fr i)) w.heap.size hfun hnew (fun x r e => (H.fp x r e).2)
  have hkeep : ∀ x r, own x = some r → (∀ i, r ≠ .q fr i) → own' x = some r := fun x r e hr => o2 x r e (fun ⟨i, hi⟩ => hr i (by rw [e] at hi; simpa using hi))
  have hMt : grown M h N fr tg now tg = fresh now (reh h N E) := by unfold grown; rw [upd_same, hE]
  have hMf : grown M h N fr tg now fr = hollow (M fr) := by unfold grown; rw [upd_ne _ _ (by omega), upd_same]
  have hMo : ∀ b, b ≠ tg → b ≠ fr → grown M h N fr tg now b = M b := fun b e1 e2 => by unfold grown; rw [upd_ne _ _ e1, upd_ne _ _ e2]
  refine ⟨own', ⟨sb, mb, upd F tg (.slice (some ⟨g3, 0, none⟩) N N), upd (upd V fr (fun _ => nilS)) tg (fun i => (ss[i]?).getD nilS), ?_⟩, t04.mono (fun x _ e => by rcases e with rfl | rfl; exact ⟨_, hog⟩; exact ⟨_, H.om⟩), fun x r e => by
    rcases o3 x r e with h' | h'
    · exact .inl ⟨r, h'⟩
    · exact .inr (hnew x r h')⟩
  refine ⟨fun x r e => ?_, rfl, (t04.block sb hslt (by omega)).trans H.hc, hkeep sb _ H.os (by simp), HM4.out, hkeep mb _ H.om (by simp), fun b => ?_, fun b x e => ?_, fun b i hi => ?_, fun b i x hi e => ?_⟩
  · rcases o3 x r e with h' | h'
    · have := H.fp x r h'; omega
    · have hb := (H.fp sb _ H.os)
      rcases h' with ⟨rfl, rfl⟩ | ⟨i, v, hv, e', rfl⟩
      · omega
      · have := hsl i v x hv e'; omega
  · by_cases e1 : b = tg
    · subst e1
      rw [upd_same, upd_same, hMt, fresh_len, reh_len]
      exact (HR3.out.keep g34 (fun x e e2 => by simp [Value.ownBlock] at e; simp at e2; omega)).base (Nat.zero_le _)
    · rw [upd_ne _ _ e1, upd_ne _ _ e1]
      by_cases e2 : b = fr
      · subst e2
        rw [upd_same, hMf, hollow_len, hF, ← hm]
        exact HR1.out.keep t14 (fun x e e2 => by simp [Value.ownBlock] at e; simp at e2; omega)
      · rw [upd_ne _ _ e2, hMo b e1 e2]
        exact (H.ht b).keep t04 (fun x e e3 => by
          rcases e3 with rfl | rfl
          · exact H.ne (H.ot b x e) hog (by simp; exact e2) rfl
          · exact H.ne (H.ot b x e) H.om (by simp) rfl)
  · by_cases e1 : b = tg
    · subst e1
      rw [upd_same] at e
      exact o1 x _ (.inl ⟨by simpa [Value.ownBlock] using e.symm, rfl⟩)
    · rw [upd_ne _ _ e1] at e
      exact hkeep x _ (H.ot b x e) (by simp)
  · by_cases e1 : b = tg
    · subst e1
      rw [hMt, fresh_len, reh_len] at hi
      rw [upd_same, hMt, fresh_at _ _ (by rw [reh_len]; exact hi)]
      obtain ⟨v, hv, hr, _⟩ := htab.qs i (by rw [reh_len]; exact hi)
      rw [hv]
      exact (hr.keep t24 (fun x e e2 => by have := hsl i v x hv e; simp at e2; omega)).base (Nat.zero_le _)
    · rw [upd_ne _ _ e1]
      by_cases e2 : b = fr
      · subst e2
        rw [hMf, hollow_len] at hi
        rw [upd_same, hMf, hollow_at _ hi]
        exact row_nil _ _ _
      · rw [hMo b e1 e2] at hi ⊢
        rw [upd_ne _ _ e2]
        exact (H.hq b i hi).keep t04 (fun x e e3 => by
          rcases e3 with rfl | rfl
          · exact H.ne (H.oq b i x hi e) hog (by simp) rfl
          · exact H.ne (H.oq b i x hi e) H.om (by simp) rfl)
  · by_cases e1 : b = tg
    · subst e1
      rw [hMt, fresh_len, reh_len] at hi
      rw [upd_same] at e
      obtain ⟨v, hv, hr, _⟩ := htab.qs i (by rw [reh_len]; exact hi)
      rw [hv] at e
      exact o1 x _ (.inr ⟨i, v, hv, e, rfl⟩)
    · rw [upd_ne _ _ e1] at e
      by_cases e2 : b = fr
      · subst e2
        rw [upd_same] at e
        simp [Value.ownBlock] at e
      · rw [hMo b e1 e2] at hi
        rw [upd_ne _ _ e2] at e
        exact hkeep x _ (H.oq b i x hi e) (by simp; exact e2)
end
end Go.Proofs.YtdodloannlfnlaaGreat.S10
namespace Go.Proofs.YtdodloannlfnlaaGreat.S10
open Go.Proofs.YtdodloannlfnlaaGreat
open Go.RowKit

theorem map_at (L : List Bk) {i : Nat} (h : i < L.length) : (L.map Bk.q)[i]! = L[i]!.q := by
  rw [getElem!_pos _ i (by rw [List.length_map]; exact h), getElem!_pos _ i h]
  simp
theorem cum_le (Ls : List (List Ent)) : ∀ k, k ≤ Ls.length → cum Ls k ≤ Ls.flatten.length := fun k hk => by
  unfold cum
  have h1 : Ls.flatten = (Ls.take k).flatten ++ (Ls.drop k).flatten := by rw [← List.flatten_append, List.take_append_drop]
  rw [h1, List.length_append]
  omega
end Go.Proofs.YtdodloannlfnlaaGreat.S10
namespace Go.Proofs.YtdodloannlfnlaaGreat.S10
open Go.Proofs.YtdodloannlfnlaaGreat
open Go.RowKit

def tcell (L : List Bk) (j : Nat) : Value := if j % 2 = 0 then .int .u64 L[j / 2]!.a else .int .u64 L[j / 2]!.f
def tflat (L : List Bk) : List Value := (List.range (L.length * 2)).map (tcell L)
theorem tflat_len (L : List Bk) : (tflat L).length = L.length * 2 := by simp [tflat]
theorem tflat_at (L : List Bk) {j : Nat} (h : j < L.length * 2) : (tflat L)[j]? = some (tcell L j) := by simp [tflat, h]
theorem tflat_get (L : List Bk) {i : Nat} (h : i < L.length) : (tflat L)[i * 2]? = some (.int .u64 L[i]!.a) ∧ (tflat L)[i * 2 + 1]? = some (.int .u64 L[i]!.f) := by
  refine ⟨?_, ?_⟩
  · rw [tflat_at L (by omega)]
    simp [tcell]
  · rw [tflat_at L (by omega)]
    simp [tcell, Nat.add_mod, show (i * 2 + 1) / 2 = i by omega]
theorem tflat_ext {L' : List Bk} {cs : List Value} (hl : cs.length = L'.length * 2) (h : ∀ j, j < L'.length * 2 → cs[j]? = some (tcell L' j)) : cs = tflat L' := by
  refine List.ext_getElem? fun j => ?_
  by_cases hj : j < L'.length * 2
  · rw [h j hj, tflat_at L' hj]
  · rw [List.getElem?_eq_none (by omega), List.getElem?_eq_none (by rw [tflat_len]; omega)]
theorem tflat_set (L : List Bk) {i : Nat} (h : i < L.length) (a f : Int) : ((tflat L).set (i * 2) (.int .u64 a)).set (i * 2 + 1) (.int .u64 f) = tflat (L.set i { L[i]! with a := a, f := f }) := by
  refine tflat_ext (by simp [tflat_len]) fun j hj => ?_
  rw [List.length_set] at hj
  unfold tcell
  rw [get_set h]
  by_cases e : j = i * 2 + 1
  · subst e
    rw [List.getElem?_set_self (by rw [List.length_set, tflat_len]; omega)]
    simp [Nat.add_mod, show (i * 2 + 1) / 2 = i by omega]
  · rw [List.getElem?_set_ne (fun e' => e e'.symm)]
    by_cases e0 : j = i * 2
    · subst e0
      rw [List.getElem?_set_self (by rw [tflat_len]; omega)]
      simp
    · rw [List.getElem?_set_ne (fun e' => e0 e'.symm), tflat_at L hj]
      unfold tcell
      rw [if_neg (show ¬ j / 2 = i by omega)]
theorem tflat_q (L : List Bk) {i : Nat} (h : i < L.length) (q : List Ent) : tflat (L.set i { L[i]! with q := q }) = tflat L := by
  refine (tflat_ext (by simp [tflat_len]) fun j hj => ?_).symm
  rw [List.length_set] at hj
  rw [tflat_at L hj]
  unfold tcell
  rw [get_set h]
  by_cases e : j / 2 = i
  · subst e; simp
  · rw [if_neg e]
theorem tflat_hollow (L : List Bk) : tflat (hollow L) = tflat L := by
  refine (tflat_ext (by simp [tflat_len, hollow_len]) fun j hj => ?_).symm
  rw [hollow_len] at hj
  rw [tflat_at L hj]
  unfold tcell
  rw [hollow_at L (by omega)]
def qflat (n : Nat) (V : Nat → Value) : List Value := (List.range n).map V
theorem qflat_len (n : Nat) (V : Nat → Value) : (qflat n V).length = n := by simp [qflat]
theorem qflat_at {n i : Nat} (V : Nat → Value) (h : i < n) : (qflat n V)[i]? = some (V i) := by simp [qflat, h]
theorem qflat_set (n : Nat) (V : Nat → Value) {i : Nat} (h : i < n) (v : Value) : (qflat n V).set i v = qflat n (upd V i v) := by
  refine List.ext_getElem? fun j => ?_
  by_cases hj : j < n
  · by_cases e : j = i
    · subst e
      rw [List.getElem?_set_self (by rw [qflat_len]; exact hj), qflat_at _ hj, upd_same]
    · rw [List.getElem?_set_ne (fun e' => e e'.symm), qflat_at _ hj, qflat_at _ hj, upd_ne _ _ e]
  · rw [List.getElem?_eq_none (by rw [List.length_set, qflat_len]; omega), List.getElem?_eq_none (by rw [qflat_len]; omega)]

structure RtF (w : World) (base : Nat) (own : Nat → Option Role) (s : Value) (M : Int → List Bk) (rb : Nat) (Q T : Nat → Value) (V : Nat → Nat → Value) : Prop where
  fp : ∀ g r, own g = some r → base ≤ g ∧ g < w.heap.size
  hs : s = .pointer (some ⟨rb, 0, none⟩)
  os : own rb = some .set
  hQ : ∀ k, k < 9 → w.cell? ⟨rb, k, none⟩ = some (Q k) ∧ w.frozen? ⟨rb, k, none⟩ = false
  hT : ∀ k, k < 9 → w.cell? ⟨rb, 9 + k, none⟩ = some (T k) ∧ w.frozen? ⟨rb, 9 + k, none⟩ = false
  no : ∀ b, (b < 2 ∨ 8 < b) → M b = []
  hq : ∀ k : Nat, k < 9 → Row w 0 1 (Q k) (M (k : Int)).length (qflat (M (k : Int)).length (V k))
  ht : ∀ k : Nat, k < 9 → Row w 0 2 (T k) (M (k : Int)).length (tflat (M (k : Int)))
  hv : ∀ (k : Nat) i, i < (M (k : Int)).length → RowE w 0 (V k i) (M (k : Int))[i]!.q
  oq : ∀ k g, k < 9 → (Q k).ownBlock = some g → own g = some (.tab (k : Nat))
  ot : ∀ k g, k < 9 → (T k).ownBlock = some g → own g = some (.tim (k : Nat))
  ov : ∀ (k : Nat) i g, i < (M (k : Int)).length → (V k i).ownBlock = some g → own g = some (.q (k : Nat) i)
def Rt (w : World) (base : Nat) (own : Nat → Option Role) (s : Value) (M : Int → List Bk) : Prop := ∃ rb Q T V, RtF w base own s M rb Q T V
section
variable {w : World} {base : Nat} {own : Nat → Option Role} {s : Value} {M : Int → List Bk} {rb : Nat} {Q T : Nat → Value} {V : Nat → Nat → Value}
theorem RtF.keep (h : RtF w base own s M rb Q T V) {S : Nat → Prop} {w' : World} (t : Turns S w w') (hn : ∀ g, Mine own g → ¬ S g) : RtF w' base own s M rb Q T V := by
  have hlt := (h.fp rb _ h.os).2
  have hno := hn rb ⟨_, h.os⟩
  exact ⟨fun g r e => ⟨(h.fp g r e).1, Nat.lt_of_lt_of_le (h.fp g r e).2 t.size⟩, h.hs, h.os, fun k hk => ⟨(t.cell hlt hno).trans (h.hQ k hk).1, (t.frozen hlt hno).trans (h.hQ k hk).2⟩, fun k hk => ⟨(t.cell hlt hno).trans (h.hT k hk).1, (t.frozen hlt hno).trans (h.hT k hk).2⟩, h.no,
    fun k hk => (h.hq k hk).keep t (fun g e => hn g ⟨_, h.oq k g hk e⟩), fun k hk => (h.ht k hk).keep t (fun g e => hn g ⟨_, h.ot k g hk e⟩), fun k i hi => (h.hv k i hi).keep t (fun g e => hn g ⟨_, h.ov k i g hi e⟩), h.oq, h.ot, h.ov⟩
theorem Rt.keep (h : Rt w base own s M) {S : Nat → Prop} {w' : World} (t : Turns S w w') (hn : ∀ g, Mine own g → ¬ S g) : Rt w' base own s M := by
  obtain ⟨rb, Q, T, V, h⟩ := h
  exact ⟨rb, Q, T, V, h.keep t hn⟩
theorem RtF.new (h : RtF w base own s M rb Q T V) {w' : World} (hb : Below w.heap.size w w') : RtF w' base own s M rb Q T V := h.keep (Turns.of_below (S := fun _ => False) hb) (fun _ _ e => e)
theorem Rt.new (h : Rt w base own s M) {w' : World} (hb : Below w.heap.size w w') : Rt w' base own s M := h.keep (Turns.of_below (S := fun _ => False) hb) (fun _ _ e => e)
theorem Rt.fp (h : Rt w base own s M) {g : Nat} (e : Mine own g) : base ≤ g ∧ g < w.heap.size := by
  obtain ⟨rb, Q, T, V, h⟩ := h
  obtain ⟨r, e⟩ := e
  exact h.fp g r e
theorem RtF.ne (h : RtF w base own s M rb Q T V) {g g' : Nat} {r r' : Role} (e : own g = some r) (e' : own g' = some r') (hr : r ≠ r') : g ≠ g' := fun h' => by
  subst h'
  rw [e] at e'
  exact hr (by simpa using e')
theorem RtF.nat (h : RtF w base own s M rb Q T V) {b : Int} (hb : M b ≠ []) : ∃ k : Nat, b = (k : Int) ∧ 2 ≤ k ∧ k < 9 := by
  by_cases h0 : b < 2 ∨ 8 < b
  · exact absurd (h.no b h0) hb
  · exact ⟨b.toNat, by omega, by omega, by omega⟩
theorem rhas_any (h : Rt w base own s M) (b : Int) : Calls Tryz.prog 47 #[s, .int .i64 b] w fun e w' => e = .returned (.bool (decide (0 < (M b).length))) ∧ w = w' := by
  obtain ⟨rb, Q, T, V, h⟩ := h
  obtain rfl := h.hs
  by_cases h0 : 2 ≤ b
  · by_cases h1 : b ≤ 8
    · obtain ⟨k, rfl⟩ := Int.eq_ofNat_of_zero_le (show 0 ≤ b by omega)
      obtain ⟨A, c, e, h2, h3⟩ := (h.ht k (by omega)).shape
      have hc := (h.hT k (by omega)).1
      rw [e] at hc
      generalize (M (k : Int)).length = m at *
      have hk9 : k < 9 := by omega
      have d0 : decide (2 ≤ (k : Int)) = true := by simpa using h0
      have d1 : decide ((k : Int) ≤ 8) = true := by simpa using h1
      clear h e h0 h1
      go_enter Tryz.func47, Tryz.ntmps47
      go_wp2_with fail
      go_ret
      exact ⟨by simp, rfl⟩
    · rw [h.no b (by omega)]
      have d0 : decide (2 ≤ b) = true := by simpa using h0
      have d1 : decide (b ≤ 8) = false := by simpa using h1
      clear h h0 h1
      go_enter Tryz.func47, Tryz.ntmps47
      go_wp2_with fail
      go_ret
      exact ⟨rfl, rfl⟩
  · rw [h.no b (by omega)]
    have d0 : decide (2 ≤ b) = false := by simpa using h0
    clear h h0
    go_enter Tryz.func47, Tryz.ntmps47
    go_wp2_with fail
    go_ret
    exact ⟨rfl, rfl⟩
end
end Go.Proofs.YtdodloannlfnlaaGreat.S10
namespace Go.Proofs.YtdodloannlfnlaaGreat.S10
open Go.Proofs.YtdodloannlfnlaaGreat
open Go.RowKit

theorem below_drewN (w : World) (n : Nat) : Below w.heap.size w (w.drewN n) := ⟨rfl, rfl, rfl, Nat.le_refl _, fun _ _ => rfl⟩
def thereB (M : Int → List Bk) (b i : Int) : Bool := decide (0 ≤ i) && decide (i < ((M b).length : Int))
section
variable {w : World} {base : Nat} {own : Nat → Option Role} {s : Value} {M : Int → List Bk}
theorem there_any (h : Rt w base own s M) (b i : Int) : Calls Tryz.prog 58 #[s, .agg #[.int .i64 b, .int .i64 i]] w fun e w' => e = .returned (.bool (thereB M b i)) ∧ Below w.heap.size w w' := by
  have HH := Lib.hid (fun W hb => rhas_any (h.new (w' := W) hb) b)
  unfold thereB
  by_cases h0 : M b = []
  · rw [h0]
    have e0 : (decide (0 ≤ i) && decide (i < (([] : List Bk).length : Int))) = false := by
      by_cases hi : 0 ≤ i
      · have : ¬ i < 0 := by omega
        simp [this]
      · simp [hi]
    rw [e0]
    have hd : decide (0 < (M b).length) = false := by rw [h0]; decide
    rw [hd] at HH
    clear h h0 hd e0
    go_enter Tryz.func58, Tryz.ntmps58
    go_upto_region 1 with (fail)
    have hb1 := below1 w (.cells #[.int .i64 b, .int .i64 i] 82)
    have hnew := heap_alloc_new w (.cells #[.int .i64 b, .int .i64 i] 82)
    have c0 := cell_row hnew 0; have c1 := cell_row hnew 1
    generalize hw1 : w.alloc (.cells #[.int .i64 b, .int .i64 i] 82) = w1 at *
    have HB := Lib.hid hb1
    clear hnew hb1 hw1
    have c0' : w1.cell? ⟨w.heap.size, 0, none⟩ = some (.int .i64 b) := c0
    have c1' : w1.cell? ⟨w.heap.size, 1, none⟩ = some (.int .i64 i) := c1
    clear c0 c1
    go_quiet ((go_at_call 47; refine Calls.quiet_of_same ((HH.out _ (HB.out.trans ((below_drewN w1 _).mono HB.out.size))).mono fun _ _ h => ⟨h.1, h.2.symm⟩)))
    go_wp2_with fail
    go_ret
    exact ⟨rfl, HB.out.trans ((below_drewN w1 nq).mono HB.out.size)⟩
  · have hd : decide (0 < (M b).length) = true := by simpa using List.length_pos_iff.2 h0
    rw [hd] at HH
    obtain ⟨rb, Q, T, V, hf⟩ := h
    obtain ⟨k, rfl, hk2, hk9⟩ := hf.nat h0
    obtain rfl := hf.hs
    obtain ⟨A, c, e, h2, h3⟩ := (hf.ht k hk9).shape
    have hc := (hf.hT k hk9).1
    rw [e] at hc
    have hrl := (hf.fp rb _ hf.os).2
    generalize (M (k : Int)).length = m at *
    clear hf e h0 hd
    by_cases h0 : 0 ≤ i
    · have d0 : decide (0 ≤ i) = true := by simpa using h0
      rw [d0]
      simp only [Bool.true_and]
      go_enter Tryz.func58, Tryz.ntmps58
      go_upto_region 1 with (fail)
      have hb1 := below1 w (.cells #[.int .i64 (k : Int), .int .i64 i] 82)
      have hnew := heap_alloc_new w (.cells #[.int .i64 (k : Int), .int .i64 i] 82)
      have c0 := cell_row hnew 0; have c1 := cell_row hnew 1
      have hc1 := (hb1.cell (p := ⟨rb, 9 + k, none⟩) hrl).trans hc
      generalize hw1 : w.alloc (.cells #[.int .i64 (k : Int), .int .i64 i] 82) = w1 at *
      have HB := Lib.hid hb1
      clear hnew hb1 hw1
      have c0' : w1.cell? ⟨w.heap.size, 0, none⟩ = some (.int .i64 (k : Int)) := c0
      have c1' : w1.cell? ⟨w.heap.size, 1, none⟩ = some (.int .i64 i) := c1
      clear c0 c1
      go_quiet ((go_at_call 47; refine Calls.quiet_of_same ((HH.out _ (HB.out.trans ((below_drewN w1 _).mono HB.out.size))).mono fun _ _ h => ⟨h.1, h.2.symm⟩)))
      go_wp2_with fail
      go_ret
      exact ⟨rfl, HB.out.trans ((below_drewN w1 nq).mono HB.out.size)⟩
    · have d0 : decide (0 ≤ i) = false := by simpa using h0
      rw [d0]
      simp only [Bool.false_and]
      go_enter Tryz.func58, Tryz.ntmps58
      go_upto_region 1 with (fail)
      have hb1 := below1 w (.cells #[.int .i64 (k : Int), .int .i64 i] 82)
      have hnew := heap_alloc_new w (.cells #[.int .i64 (k : Int), .int .i64 i] 82)
      have c0 := cell_row hnew 0; have c1 := cell_row hnew 1
      generalize hw1 : w.alloc (.cells #[.int .i64 (k : Int), .int .i64 i] 82) = w1 at *
      have HB := Lib.hid hb1
      clear hnew hb1 hw1
      have c0' : w1.cell? ⟨w.heap.size, 0, none⟩ = some (.int .i64 (k : Int)) := c0
      have c1' : w1.cell? ⟨w.heap.size, 1, none⟩ = some (.int .i64 i) := c1
      clear c0 c1
      go_quiet ((go_at_call 47; refine Calls.quiet_of_same ((HH.out _ (HB.out.trans ((below_drewN w1 _).mono HB.out.size))).mono fun _ _ h => ⟨h.1, h.2.symm⟩)))
      go_wp2_with fail
      go_ret
      exact ⟨rfl, HB.out.trans ((below_drewN w1 nq).mono HB.out.size)⟩
end
end Go.Proofs.YtdodloannlfnlaaGreat.S10
namespace Go.Proofs.YtdodloannlfnlaaGreat.S10
open Go.Proofs.YtdodloannlfnlaaGreat
open Go.RowKit

theorem there_no {M : Int → List Bk} {b i : Int} (h : i < 0 ∨ ((M b).length : Int) ≤ i) : thereB M b i = false := by
  unfold thereB
  rcases h with h | h
  · rw [show decide (0 ≤ i) = false by simpa using h]; rfl
  · rw [show decide (i < ((M b).length : Int)) = false by simpa using h]; simp
theorem there_yes {M : Int → List Bk} {b : Int} {i : Nat} (h : i < (M b).length) : thereB M b (i : Int) = true := by
  unfold thereB
  simp; exact h
section
variable {w : World} {base : Nat} {own : Nat → Option Role} {s : Value} {M : Int → List Bk} {b : Int}
theorem RtF.bk {rb : Nat} {Q T : Nat → Value} {V : Nat → Nat → Value} (h : RtF w base own s M rb Q T V) {k i : Nat} (hk : k < 9) (hi : i < (M (k : Int)).length) :
    ∃ gq oq cq gt ot ct, Q k = .slice (some ⟨gq, oq, none⟩) (M (k : Int)).length cq ∧ T k = .slice (some ⟨gt, ot, none⟩) (M (k : Int)).length ct ∧ own gq = some (.tab (k : Nat)) ∧ own gt = some (.tim (k : Nat)) ∧
      w.cell? ⟨gq, oq + i, none⟩ = some (V k i) ∧ w.frozen? ⟨gq, oq + i, none⟩ = false ∧
      w.cell? ⟨gt, ot + i * 2, none⟩ = some (.int .u64 (M (k : Int))[i]!.a) ∧ w.frozen? ⟨gt, ot + i * 2, none⟩ = false ∧ w.cell? ⟨gt, ot + i * 2 + 1, none⟩ = some (.int .u64 (M (k : Int))[i]!.f) ∧ w.frozen? ⟨gt, ot + i * 2 + 1, none⟩ = false := by
  have hr := h.hq k hk
  obtain ⟨A, c, e, hc, hc9⟩ := hr.shape
  rw [e] at hr
  have ht := h.ht k hk
  obtain ⟨A2, c2, e2, hc2, hc92⟩ := ht.shape
  rw [e2] at ht
  obtain ⟨g, o, rfl⟩ : ∃ g o, A = some ⟨g, o, none⟩ := by
    obtain ⟨A', c', e', _, _, _, h3, h4⟩ := hr
    cases e'
    cases A with
    | none => have := h3 rfl; omega
    | some ad => obtain ⟨g, o, rfl, _⟩ := h4 ad rfl; exact ⟨g, o, rfl⟩
  obtain ⟨g2, o2, rfl⟩ : ∃ g o, A2 = some ⟨g, o, none⟩ := by
    obtain ⟨A', c', e', _, _, _, h3, h4⟩ := ht
    cases e'
    cases A2 with
    | none => have := h3 rfl; omega
    | some ad => obtain ⟨g, o, rfl, _⟩ := h4 ad rfl; exact ⟨g, o, rfl⟩
  obtain ⟨u, hu, q1, q2⟩ := hr.ok (j := i) (by omega)
  rw [qflat_at _ hi] at hu
  cases hu
  obtain ⟨t0, t1⟩ := tflat_get (M (k : Int)) hi
  obtain ⟨u, hu, q3, q4⟩ := ht.ok (j := i * 2) (by omega)
  rw [t0] at hu
  cases hu
  obtain ⟨u, hu, q5, q6⟩ := ht.ok (j := i * 2 + 1) (by omega)
  rw [t1] at hu
  cases hu
  rw [← Nat.add_assoc] at q5 q6
  exact ⟨g, o, c, g2, o2, c2, e, e2, h.oq k g hk (by rw [e]; rfl), h.ot k g2 hk (by rw [e2]; rfl), q1, q2, q3, q4, q5, q6⟩
theorem rqueue_no (h : Rt w base own s M) {i : Int} (hi : i < 0 ∨ ((M b).length : Int) ≤ i) :
    Calls Tryz.prog 77 #[s, .agg #[.int .i64 b, .int .i64 i]] w fun e w' => e = .returned nilS ∧ Below w.heap.size w w' := by
  have HT := Lib.hid (fun o => there_any (h.new (below1 w o)) b i)
  rw [there_no hi] at HT
  clear h hi
  go_enter Tryz.func77, Tryz.ntmps77
  go_wp2_with (go_at_call 58; refine (HT.out _).mono ?_; rintro e w' ⟨rfl, hb1⟩; (have HB1 := Lib.hid hb1); (clear hb1))
  go_ret
  exact ⟨rfl, (below1 w _).trans (HB1.out.mono (by simp))⟩
theorem rqueue_yes (h : Rt w base own s M) {i : Nat} (hi : i < (M b).length) :
    Calls Tryz.prog 77 #[s, .agg #[.int .i64 b, .int .i64 (i : Int)]] w fun e w' => ∃ A' c', e = .returned (.slice A' (M b)[i]!.q.length c') ∧ (M b)[i]!.q.length ≤ c' ∧ c' ≤ 9223372036854775807 ∧ Rd w' w.heap.size A' (flat (M b)[i]!.q) ∧ Below w.heap.size w w' := by
  have HT := Lib.hid (fun o => there_any (h.new (below1 w o)) b i)
  rw [there_yes hi] at HT
  obtain ⟨rb, Q, T, V, hf⟩ := h
  obtain ⟨k, rfl, hk2, hk9⟩ := hf.nat (b := b) (fun e => by rw [e] at hi; simp at hi)
  obtain rfl := hf.hs
  obtain ⟨g, o, c, g2, o2, c2, e1, e2, og, og2, q1, q2, q3, q4, q5, q6⟩ := hf.bk hk9 hi
  have hv := hf.hv k i hi
  obtain ⟨A', c', ev, hc', hc9⟩ := hv.shape
  rw [ev] at hv q1
  have hc := (hf.hQ k hk9).1
  rw [e1] at hc
  have HR := Lib.hid hv.rd
  have hgl := (hf.fp g _ og).2
  have hrl := (hf.fp rb _ hf.os).2
  generalize (M (k : Int))[i]!.q = D at *
  generalize (M (k : Int)).length = m at *
  obtain ⟨n, hn⟩ : ∃ n, n = D.length := ⟨_, rfl⟩
  rw [← hn] at q1 hc' ⊢
  have HN := Lib.hid hn
  have HC' := Lib.hid hc'; have HC9 := Lib.hid hc9
  have HK := Lib.hid (fun W (hb : Below w.heap.size w W) => (⟨(hb.cell (p := ⟨rb, k, none⟩) hrl).trans hc, (hb.cell (p := ⟨g, o + i, none⟩) hgl).trans q1⟩ : _ ∧ _))
  clear hv q1 q2 q3 q4 q5 q6 hc hf e1 e2 og og2 ev hc' hc9 hn
  go_enter Tryz.func77, Tryz.ntmps77
  go_wp2_with fail
  have hnew := heap_alloc_new w (.cells #[.int .i64 (k : Int), .int .i64 (i : Int)] 82)
  refine (HT.out _).mono ?_
  rintro e w1 ⟨rfl, hb1⟩
  have hnew1 := (hb1.block _ (by simp)).trans hnew
  have c0 : w1.cell? ⟨w.heap.size, 0, none⟩ = some (.int .i64 (k : Int)) := cell_row hnew1 0
  have c1 : w1.cell? ⟨w.heap.size, 1, none⟩ = some (.int .i64 (i : Int)) := cell_row hnew1 1
  have HB := Lib.hid ((below1 w _).trans (hb1.mono (by simp)))
  obtain ⟨k0, k1⟩ := HK.out w1 HB.out
  clear hnew hb1 hnew1
  go_upto_region 3 with (fail)
  go_quiet (fail)
  go_wp2_with fail
  go_ret
  have hb2 := HB.out.trans ((below_drewN w1 nq).mono HB.out.size)
  exact ⟨A', c', rfl, HC'.out, HC9.out, HR.out.below hb2 (Nat.le_refl _), hb2⟩
theorem rtimer_no (h : Rt w base own s M) {i : Int} (hi : i < 0 ∨ ((M b).length : Int) ≤ i) :
    Calls Tryz.prog 74 #[s, .agg #[.int .i64 b, .int .i64 i]] w fun e w' => e = .returned (.agg #[.int .u64 0, .int .u64 0]) ∧ Below w.heap.size w w' := by
  have HT := Lib.hid (fun W hW => there_any (h.new (w' := W) hW) b i)
  rw [there_no hi] at HT
  clear h hi
  go_enter Tryz.func74, Tryz.ntmps74
  go_wp2_with fail
  have hbb : Below w.heap.size w ((w.alloc (.cells #[.int .i64 b, .int .i64 i] 82)).alloc (.cells #[.int .u64 0, .int .u64 0] 90)) := (below1 w _).alloc (by simp) _
  refine (HT.out _ hbb).mono ?_
  rintro e w1 ⟨rfl, hb1⟩
  have hx := pair_facts hb1
  rw [show (w.alloc (.cells #[Value.int .i64 b, .int .i64 i] 82)).heap.size = w.heap.size + 1 by simp] at hx
  have HB := Lib.hid (hbb.trans (hb1.mono hbb.size))
  clear hb1 hbb
  obtain ⟨X, hX⟩ : ∃ X, X = w.heap.size + 1 := ⟨_, rfl⟩
  have HX := Lib.hid hX
  rw [← hX] at hx ⊢
  have x0 : w1.cell? ⟨X, 0, none⟩ = some (.int .u64 0) := cell_row hx 0
  have x1 : w1.cell? ⟨X, 1, none⟩ = some (.int .u64 0) := cell_row hx 1
  have f0 : w1.frozen? ⟨X, 0, none⟩ = false := froz_row hx 0
  have f1 : w1.frozen? ⟨X, 1, none⟩ = false := froz_row hx 1
  have hp := pair_set hx (.int .u64 0) (.int .u64 0)
  have S0 := Lib.hid (show _ = some (Value.int .u64 0) from cell_row hp 0); have S1 := Lib.hid (show _ = some (Value.int .u64 0) from cell_row hp 1)
  clear hx hX hp
  go_wp2_with fail
  refine bodyPost_ret (v := .agg #[.int .u64 0, .int .u64 0]) (by simp [results, Tryz.results74, go_sem, S0.out, S1.out]) rfl ⟨rfl, ?_⟩
  exact HB.out.trans ((turns2 w1 X _ _).below HB.out.size (fun k hk e => by have := HX.out; omega))
theorem rtimer_yes (h : Rt w base own s M) {i : Nat} (hi : i < (M b).length) :
    Calls Tryz.prog 74 #[s, .agg #[.int .i64 b, .int .i64 (i : Int)]] w fun e w' => e = .returned (.agg #[.int .u64 (M b)[i]!.a, .int .u64 (M b)[i]!.f]) ∧ Below w.heap.size w w' := by
  have HT := Lib.hid (fun W hW => there_any (h.new (w' := W) hW) b i)
  rw [there_yes hi] at HT
  obtain ⟨rb, Q, T, V, hf⟩ := h
  obtain ⟨k, rfl, hk2, hk9⟩ := hf.nat (b := b) (fun e => by rw [e] at hi; simp at hi)
  obtain rfl := hf.hs
  obtain ⟨g2, o2, c2, g, o, c, e2, e1, og2, og, q1, q2, q3, q4, q5, q6⟩ := hf.bk hk9 hi
  have hc := (hf.hT k hk9).1
  rw [e1] at hc
  have hgl := (hf.fp g _ og).2
  have hrl := (hf.fp rb _ hf.os).2
  generalize (M (k : Int))[i]!.a = ta at *
  generalize (M (k : Int))[i]!.f = tf at *
  generalize (M (k : Int)).length = m at *
  have HK := Lib.hid (fun W (hb : Below w.heap.size w W) => (⟨(hb.cell (p := ⟨rb, 9 + k, none⟩) hrl).trans hc, (hb.cell (p := ⟨g, o + i * 2, none⟩) hgl).trans q3, (hb.cell (p := ⟨g, o + i * 2 + 1, none⟩) hgl).trans q5⟩ : _ ∧ _ ∧ _))
  clear q1 q2 q3 q4 q5 q6 hc hf e1 e2 og og2
  go_enter Tryz.func74, Tryz.ntmps74
  go_wp2_with fail
  have hbb : Below w.heap.size w ((w.alloc (.cells #[.int .i64 (k : Int), .int .i64 (i : Int)] 82)).alloc (.cells #[.int .u64 0, .int .u64 0] 90)) := (below1 w _).alloc (by simp) _
  have hnew : ((w.alloc (.cells #[.int .i64 (k : Int), .int .i64 (i : Int)] 82)).alloc (.cells #[.int .u64 0, .int .u64 0] 90)).heap[w.heap.size]? = some (.cells #[.int .i64 (k : Int), .int .i64 (i : Int)] 82 (0, 0)) :=
    (Below.heap_alloc _ _ _ (by simp)).trans (heap_alloc_new w _)
  refine (HT.out _ hbb).mono ?_
  rintro e w1 ⟨rfl, hb1⟩
  have hnew1 := (hb1.block _ (by simp; omega)).trans hnew
  have c0 : w1.cell? ⟨w.heap.size, 0, none⟩ = some (.int .i64 (k : Int)) := cell_row hnew1 0
  have c1 : w1.cell? ⟨w.heap.size, 1, none⟩ = some (.int .i64 (i : Int)) := cell_row hnew1 1
  have hx := pair_facts hb1
  rw [show (w.alloc (.cells #[Value.int .i64 (k : Int), .int .i64 (i : Int)] 82)).heap.size = w.heap.size + 1 by simp] at hx
  have HB := Lib.hid (hbb.trans (hb1.mono hbb.size))
  obtain ⟨k0, k1, k2⟩ := HK.out w1 HB.out
  clear hb1 hbb hnew hnew1
  obtain ⟨X, hX⟩ : ∃ X, X = w.heap.size + 1 := ⟨_, rfl⟩
  have HX := Lib.hid hX
  rw [← hX] at hx ⊢
  have x0 : w1.cell? ⟨X, 0, none⟩ = some (.int .u64 0) := cell_row hx 0
  have x1 : w1.cell? ⟨X, 1, none⟩ = some (.int .u64 0) := cell_row hx 1
  have f0 : w1.frozen? ⟨X, 0, none⟩ = false := froz_row hx 0
  have f1 : w1.frozen? ⟨X, 1, none⟩ = false := froz_row hx 1
  have hp := pair_set hx (.int .u64 ta) (.int .u64 tf)
  have S0 := Lib.hid (show _ = some (Value.int .u64 ta) from cell_row hp 0); have S1 := Lib.hid (show _ = some (Value.int .u64 tf) from cell_row hp 1)
  clear hx hX hp
  go_upto_region 3 with (fail)
  go_region
  go_wp2_with fail
  refine bodyPost_ret (v := .agg #[.int .u64 ta, .int .u64 tf]) (by simp [results, Tryz.results74, go_sem, S0.out, S1.out]) rfl ⟨rfl, ?_⟩
  exact (HB.out.trans ((turns2 w1 X _ _).below HB.out.size (fun k hk e => by have := HX.out; omega))).drew
end
end Go.Proofs.YtdodloannlfnlaaGreat.S10
namespace Go.Proofs.YtdodloannlfnlaaGreat.S10
open Go.Proofs.YtdodloannlfnlaaGreat
open Go.RowKit

section
variable {w : World} {base : Nat} {own : Nat → Option Role} {s : Value} {M : Int → List Bk} {rb : Nat} {Q T : Nat → Value} {V : Nat → Nat → Value}
theorem upd_len (M : Int → List Bk) (b : Int) (i : Nat) (x : Bk) (b' : Int) : (upd M b ((M b).set i x) b').length = (M b').length := by
  by_cases e : b' = b
  · subst e; rw [upd_same, List.length_set]
  · rw [upd_ne _ _ e]
theorem upd_no {M : Int → List Bk} (h : ∀ b, (b < 2 ∨ 8 < b) → M b = []) (b : Int) (i : Nat) (x : Bk) : ∀ b', (b' < 2 ∨ 8 < b') → upd M b ((M b).set i x) b' = [] := fun b' hb => by
  have := upd_len M b i x b'
  rw [h b' hb] at this
  exact List.eq_nil_of_length_eq_zero (by simpa using this)
theorem RtF.putQ (h : RtF w base own s M rb Q T V) {k i g o c : Nat} (hk : k < 9) (hi : i < (M (k : Int)).length) (hQ : Q k = .slice (some ⟨g, o, none⟩) (M (k : Int)).length c) {w1 : World} (hb : Below w.heap.size w w1) {v : Value} {D : List Ent} (hv : RowE w1 w.heap.size v D) :
    RtF (w1.setCell ⟨g, o + i, none⟩ v) base (ownQ own k i v) s (upd M k ((M k).set i { (M k)[i]! with q := D })) rb Q T (upd V k (upd (V k) i v)) := by
  have h1 := h.new hb
  have hog : own g = some (.tab (k : Nat)) := h.oq k g hk (by rw [hQ]; rfl)
  have hvg : ∀ x, v.ownBlock = some x → w.heap.size ≤ x ∧ x < w1.heap.size := fun x e => hv.lt x e
  have hvx : ∀ x, v.ownBlock = some x → w.heap.size ≤ x := fun x e => (hvg x e).1
  have tset : Turns (fun k => k = g) w1 (w1.setCell ⟨g, o + i, none⟩ v) := (Turns.refl _ w1).setCell _ _ rfl
  have hrb := h.fp rb _ h.os
  have hrg : rb ≠ g := h.ne h.os hog (by simp)
  have hrlt := (h1.fp rb _ h.os).2
  refine ⟨fun x r e => ?_, h.hs, ownQ_keep hvx h.os hrb.2 (by simp), fun j hj => ⟨(tset.cell hrlt hrg).trans (h1.hQ j hj).1, (tset.frozen hrlt hrg).trans (h1.hQ j hj).2⟩, fun j hj => ⟨(tset.cell hrlt hrg).trans (h1.hT j hj).1, (tset.frozen hrlt hrg).trans (h1.hT j hj).2⟩, upd_no h.no _ _ _, fun j hj => ?_, fun j hj => ?_, fun j x hx => ?_, fun j x hj e => ?_, fun j x hj e => ?_, fun j x y hx e => ?_⟩
  · unfold ownQ at e
    have hsz : (w1.setCell ⟨g, o + i, none⟩ v).heap.size = w1.heap.size := by simp [World.setCell]
    rw [hsz]
    by_cases e1 : v.ownBlock = some x
    · have := hvg x e1; omega
    · rw [if_neg e1] at e
      by_cases e2 : own x = some (.q (k : Nat) i)
      · rw [if_pos e2] at e; cases e
      · rw [if_neg e2] at e
        have := h.fp x r e
        have := hb.size
        omega
  · rw [upd_len]
    by_cases e : j = k
    · subst e
      rw [upd_same, ← qflat_set _ _ hi]
      have := h1.hq j hj
      rw [hQ] at this ⊢
      exact this.setAt (i := i) (by omega) v
    · rw [upd_ne _ _ e]
      exact (h1.hq j hj).keep tset (fun x ex => h.ne (h.oq j x hj ex) hog (by simp; exact fun e' => e (by omega)))
  · rw [upd_len]
    have ht : tflat (upd M k ((M k).set i { (M k)[i]! with q := D }) (j : Int)) = tflat (M (j : Int)) := by
      by_cases e : j = k
      · subst e; rw [upd_same, tflat_q _ hi]
      · rw [upd_ne _ _ (by omega)]
    rw [ht]
    exact (h1.ht j hj).keep tset (fun x ex => h.ne (h.ot j x hj ex) hog (by simp))
  · rw [upd_len] at hx
    by_cases e : j = k
    · subst e
      rw [upd_same, upd_same, get_set hi]
      by_cases e2 : x = i
      · subst e2
        rw [if_pos rfl, upd_same]
        exact (hv.keep tset (fun y ey e3 => by have := hvx y ey; have := h.fp g _ hog; omega)).base (Nat.zero_le _)
      · rw [if_neg e2, upd_ne _ _ e2]
        exact (h1.hv j x hx).keep tset (fun y ey => h.ne (h.ov j x y hx ey) hog (by simp))
    · rw [upd_ne _ _ (show (j : Int) ≠ (k : Int) by omega), upd_ne _ _ e]
      exact (h1.hv j x hx).keep tset (fun y ey => h.ne (h.ov j x y hx ey) hog (by simp))
  · exact ownQ_keep hvx (h.oq j x hj e) (h.fp x _ (h.oq j x hj e)).2 (by simp)
  · exact ownQ_keep hvx (h.ot j x hj e) (h.fp x _ (h.ot j x hj e)).2 (by simp)
  · rw [upd_len] at hx
    by_cases e1 : j = k ∧ x = i
    · obtain ⟨rfl, rfl⟩ := e1
      rw [upd_same, upd_same] at e
      unfold ownQ
      rw [if_pos e]
    · have e' : (V j x).ownBlock = some y := by
        by_cases e2 : j = k
        · subst e2
          rw [upd_same, upd_ne _ _ (fun e3 => e1 ⟨rfl, e3⟩)] at e
          exact e
        · rw [upd_ne _ _ e2] at e
          exact e
      exact ownQ_keep hvx (h.ov j x y hx e') (h.fp y _ (h.ov j x y hx e')).2 (by simp; exact fun e2 e3 => e1 ⟨by omega, e3⟩)
theorem RtF.putT (h : RtF w base own s M rb Q T V) {k i g o c : Nat} (hk : k < 9) (hi : i < (M (k : Int)).length) (hT : T k = .slice (some ⟨g, o, none⟩) (M (k : Int)).length c) (ta tf : Int) :
    RtF ((w.setCell ⟨g, o + i * 2, none⟩ (.int .u64 ta)).setCell ⟨g, o + i * 2 + 1, none⟩ (.int .u64 tf)) base own s (upd M k ((M k).set i { (M k)[i]! with a := ta, f := tf })) rb Q T V := by
  have hog : own g = some (.tim (k : Nat)) := h.ot k g hk (by rw [hT]; rfl)
  have tset : Turns (fun k => k = g) w ((w.setCell ⟨g, o + i * 2, none⟩ (.int .u64 ta)).setCell ⟨g, o + i * 2 + 1, none⟩ (.int .u64 tf)) := ((Turns.refl (fun k => k = g) w).setCell ⟨g, o + i * 2, none⟩ _ rfl).setCell ⟨g, o + i * 2 + 1, none⟩ _ rfl
  have hrlt := (h.fp rb _ h.os).2
  have hrg : rb ≠ g := h.ne h.os hog (by simp)
  refine ⟨fun x r e => ?_, h.hs, h.os, fun j hj => ⟨(tset.cell hrlt hrg).trans (h.hQ j hj).1, (tset.frozen hrlt hrg).trans (h.hQ j hj).2⟩, fun j hj => ⟨(tset.cell hrlt hrg).trans (h.hT j hj).1, (tset.frozen hrlt hrg).trans (h.hT j hj).2⟩, upd_no h.no _ _ _, fun j hj => ?_, fun j hj => ?_, fun j x hx => ?_, h.oq, h.ot, fun j x y hx e => ?_⟩
  · have := h.fp x r e
    have := tset.size
    omega
  · rw [upd_len]
    exact (h.hq j hj).keep tset (fun x ex => h.ne (h.oq j x hj ex) hog (by simp))
  · rw [upd_len]
    by_cases e : j = k
    · subst e
      rw [upd_same, ← tflat_set _ hi]
      have := h.ht j hj
      rw [hT] at this ⊢
      have h2 := (this.setAt (i := i * 2) (by omega) (.int .u64 ta)).setAt (i := i * 2 + 1) (by omega) (.int .u64 tf)
      rw [Nat.add_assoc]
      exact h2
    · rw [upd_ne _ _ (show (j : Int) ≠ (k : Int) by omega)]
      exact (h.ht j hj).keep tset (fun x ex => h.ne (h.ot j x hj ex) hog (by simp; omega))
  · rw [upd_len] at hx
    have : (upd M k ((M k).set i { (M k)[i]! with a := ta, f := tf }) (j : Int))[x]!.q = (M (j : Int))[x]!.q := by
      by_cases e : j = k
      · subst e
        rw [upd_same, get_set hi]
        by_cases e2 : x = i
        · subst e2; rw [if_pos rfl]
        · rw [if_neg e2]
      · rw [upd_ne _ _ (by omega)]
    rw [this]
    exact (h.hv j x hx).keep tset (fun y ey => h.ne (h.ov j x y hx ey) hog (by simp))
  · rw [upd_len] at hx
    exact h.ov j x y hx e
variable {b : Int}
theorem rput_no (h : Rt w base own s M) {i : Int} (hi : i < 0 ∨ ((M b).length : Int) ≤ i) (A0 : Option Addr) (m0 c0 : Nat) :
    Calls Tryz.prog 18 #[s, .agg #[.int .i64 b, .int .i64 i], .slice A0 m0 c0] w fun e w' => e = .returned (.bool false) ∧ Below w.heap.size w w' := by
  have HT := Lib.hid (fun o => there_any (h.new (below1 w o)) b i)
  rw [there_no hi] at HT
  clear h hi
  go_enter Tryz.func18, Tryz.ntmps18
  go_wp2_with (go_at_call 58; refine (HT.out _).mono ?_; rintro e w' ⟨rfl, hb1⟩; (have HB1 := Lib.hid hb1); (clear hb1))
  go_ret
  exact ⟨rfl, (below1 w _).trans (HB1.out.mono (by simp))⟩
theorem rputT_no (h : Rt w base own s M) {i : Int} (hi : i < 0 ∨ ((M b).length : Int) ≤ i) (ta tf : Int) :
    Calls Tryz.prog 21 #[s, .agg #[.int .i64 b, .int .i64 i], .agg #[.int .u64 ta, .int .u64 tf]] w fun e w' => e = .returned (.bool false) ∧ Below w.heap.size w w' := by
  have HT := Lib.hid (fun W hW => there_any (h.new (w' := W) hW) b i)
  rw [there_no hi] at HT
  have hbb : Below w.heap.size w ((w.alloc (.cells #[.int .i64 b, .int .i64 i] 82)).alloc (.cells #[.int .u64 ta, .int .u64 tf] 90)) := (below1 w _).alloc (by simp) _
  have HBB := Lib.hid hbb
  clear h hi hbb
  go_enter Tryz.func21, Tryz.ntmps21
  go_wp2_with (go_at_call 58; refine (HT.out _ HBB.out).mono ?_; rintro e w' ⟨rfl, hb1⟩; (have HB1 := Lib.hid hb1); (clear hb1))
  go_ret
  exact ⟨rfl, HBB.out.trans (HB1.out.mono HBB.out.size)⟩
theorem rput_yes (h : Rt w base own s M) {i : Nat} (hi : i < (M b).length) {b0 c0 : Nat} {A0 : Option Addr} {D : List Ent} (hr : Rd w b0 A0 (flat D)) (hb0 : b0 ≤ w.heap.size) (hlen : D.length ≤ 1000000) :
    Calls Tryz.prog 18 #[s, .agg #[.int .i64 b, .int .i64 (i : Int)], .slice A0 D.length c0] w fun e w' => e = .returned (.bool true) ∧ ∃ own', Rt w' base own' s (upd M b ((M b).set i { (M b)[i]! with q := D })) ∧ Turns (Mine own) w w' ∧ Fresh own own' w := by
  have HT := Lib.hid (fun o => there_any (h.new (below1 w o)) b i)
  rw [there_yes hi] at HT
  obtain ⟨rb, Q, T, V, hf⟩ := h
  obtain ⟨k, rfl, hk2, hk9⟩ := hf.nat (b := b) (fun e => by rw [e] at hi; simp at hi)
  obtain rfl := hf.hs
  obtain ⟨g, o, c, g2, o2, c2, e1, e2, og, og2, q1, q2, -⟩ := hf.bk hk9 hi
  have hc := (hf.hQ k hk9).1
  rw [e1] at hc
  have hgl := (hf.fp g _ og).2
  have hrl := (hf.fp rb _ hf.os).2
  have hrg : g ≠ rb := hf.ne og hf.os (by simp)
  have HF := Lib.hid hf; have HI := Lib.hid hi; have HQ := Lib.hid e1; have HR := Lib.hid hr; have HB0 := Lib.hid hb0; have HOG := Lib.hid og
  have hi' := hi
  obtain ⟨m, hm⟩ : ∃ m, m = (M (k : Int)).length := ⟨_, rfl⟩
  rw [← hm] at hi' hc
  obtain ⟨n, hn⟩ : ∃ n, n = D.length := ⟨_, rfl⟩
  have HN := Lib.hid hn
  have HK := Lib.hid (fun W (hb : Below w.heap.size w W) => (⟨(hb.cell (p := ⟨rb, k, none⟩) hrl).trans hc, (hb.cell (p := ⟨g, o + i, none⟩) hgl).trans q1, (hb.frozen (p := ⟨g, o + i, none⟩) hgl).trans q2⟩ : _ ∧ _ ∧ _))
  rw [← hn]
  clear q1 q2 hc hf e1 e2 og og2 hm hn hi hr hb0
  go_enter Tryz.func18, Tryz.ntmps18
  go_wp2_with fail
  have hnew := heap_alloc_new w (.cells #[.int .i64 (k : Int), .int .i64 (i : Int)] 82)
  refine (HT.out _).mono ?_
  rintro e w1 ⟨rfl, hb1⟩
  have hnew1 := (hb1.block _ (by simp)).trans hnew
  have c0' : w1.cell? ⟨w.heap.size, 0, none⟩ = some (.int .i64 (k : Int)) := cell_row hnew1 0
  have c1' : w1.cell? ⟨w.heap.size, 1, none⟩ = some (.int .i64 (i : Int)) := cell_row hnew1 1
  have HB := Lib.hid ((below1 w _).trans (hb1.mono (by simp)))
  obtain ⟨k0, k1, k2⟩ := HK.out w1 HB.out
  have hX1 : w.heap.size < w1.heap.size := by have := hb1.size; simp at this; omega
  have hgX : g ≠ w.heap.size := by omega
  have hbs := HB.out.size
  have hrl1 : rb < w1.heap.size := by omega
  have hgl1 : g < w1.heap.size := by omega
  clear hnew hb1 hnew1
  obtain ⟨X, hX⟩ : ∃ X, X = w.heap.size := ⟨_, rfl⟩
  rw [← hX] at c0' c1' hX1 hgX ⊢
  have hk9i : (k : Int) < 9 := by omega
  have HRD : Hid (Rd w1.drew w1.heap.size A0 (flat D)) := Lib.hid ((HR.out.below HB.out HB0.out).more (Nat.le_trans HB0.out hbs))
  have HB0' := Lib.hid hlen
  clear hX
  go_upto_region 3 with (fail)
  refine wp_region_held_drew (S := fun w' => w'.cell? ⟨X, 0, none⟩ = some (.int .i64 (k : Int)) ∧ w'.cell? ⟨X, 1, none⟩ = some (.int .i64 (i : Int)) ∧ w'.cell? ⟨rb, k, none⟩ = some (.slice (some ⟨g, o, none⟩) m c)) (by kernel_rfl) ?_ (fun hHeld => ?_)
  · exact ⟨c0', c1', k0⟩
  refine wpAnyH_take (i := 0) (oi := ({ dst := some 11, op := Op.move (Operand.tmp 0), type := 65, pos := "ref.go:61", after := #[], guard := none } : Oper)) (v := ?v0) rfl (by kernel_rfl) (by kernel_rfl) (by kernel_rfl) (fun _ _ _ h => h) (Or.inl ⟨by rfl, fun w hSw => ?hy0⟩) (by assumption) ?r0
  case hy0 => (try dsimp only at hSw); go_simp; (try with_reducible rfl)
  (try simp only [Act.put, List.setIfInBounds_toArray, List.set_cons_zero, List.set_cons_succ])
  refine wpAnyH_take (i := 1) (oi := ({ dst := some 12, op := Op.fieldAddr 82 (Operand.tmp 4) 0, type := 0, pos := "ref.go:61", after := #[], guard := none } : Oper)) (v := ?v1) rfl (by kernel_rfl) (by kernel_rfl) (by kernel_rfl) (fun _ _ _ h => h) (Or.inl ⟨by rfl, fun w hSw => ?hy1⟩) (by assumption) ?r1
  case hy1 => (try dsimp only at hSw); go_simp; (try with_reducible rfl)
  (try simp only [Act.put, List.setIfInBounds_toArray, List.set_cons_zero, List.set_cons_succ])
  refine wpAnyH_take (i := 2) (oi := ({ dst := some 13, op := Op.load 3 (Operand.tmp 12), type := 3, pos := "ref.go:61", after := #[{ on := 1, ground := Ground.data }], guard := none } : Oper)) (v := ?v2) rfl (by kernel_rfl) (by kernel_rfl) (by kernel_rfl) (fun _ _ _ h => h) (Or.inl ⟨by rfl, fun w hSw => ?hy2⟩) (by assumption) ?r2
  case hy2 => (try dsimp only at hSw); go_simp; (try with_reducible rfl)
  (try simp only [Act.put, List.setIfInBounds_toArray, List.set_cons_zero, List.set_cons_succ])
  refine wpAnyH_take (i := 3) (oi := ({ dst := some 14, op := Op.nilCheck (Operand.tmp 11), type := 0, pos := "ref.go:61", after := #[{ on := 0, ground := Ground.data }], guard := none } : Oper)) (v := ?v3) rfl (by kernel_rfl) (by kernel_rfl) (by kernel_rfl) (fun _ _ _ h => h) (Or.inl ⟨by rfl, fun w hSw => ?hy3⟩) (by assumption) ?r3
  case hy3 => (try dsimp only at hSw); go_simp; (try with_reducible rfl)
  (try simp only [Act.put, List.setIfInBounds_toArray, List.set_cons_zero, List.set_cons_succ])
  refine wpAnyH_take (i := 4) (oi := ({ dst := some 15, op := Op.fieldAddr 145 (Operand.tmp 14) 0, type := 0, pos := "ref.go:61", after := #[{ on := 3, ground := Ground.data }], guard := none } : Oper)) (v := ?v4) rfl (by kernel_rfl) (by kernel_rfl) (by kernel_rfl) (fun _ _ _ h => h) (Or.inl ⟨by rfl, fun w hSw => ?hy4⟩) (by assumption) ?r4
  case hy4 => (try dsimp only at hSw); go_simp; (try with_reducible rfl)
  (try simp only [Act.put, List.setIfInBounds_toArray, List.set_cons_zero, List.set_cons_succ])
  refine wpAnyH_take (i := 5) (oi := ({ dst := some 16, op := Op.indexAddr 141 (Operand.tmp 15) (Operand.tmp 13), type := 0, pos := "ref.go:61", after := #[{ on := 4, ground := Ground.data }, { on := 2, ground := Ground.data }], guard := none } : Oper)) (v := ?v5) rfl (by kernel_rfl) (by kernel_rfl) (by kernel_rfl) (fun _ _ _ h => h) (Or.inl ⟨by rfl, fun w hSw => ?hy5⟩) (by assumption) ?r5
  case hy5 => (try dsimp only at hSw); go_simp; (try with_reducible rfl)
  (try simp only [Act.put, List.setIfInBounds_toArray, List.set_cons_zero, List.set_cons_succ])
  refine wpAnyH_take (i := 6) (oi := ({ dst := some 17, op := Op.load 139 (Operand.tmp 16), type := 139, pos := "ref.go:61", after := #[{ on := 5, ground := Ground.data }], guard := none } : Oper)) (v := ?v6) rfl (by kernel_rfl) (by kernel_rfl) (by kernel_rfl) (fun _ _ _ h => h) (Or.inl ⟨by rfl, fun w hSw => ?hy6⟩) (by assumption) ?r6
  case hy6 => (try dsimp only at hSw); go_simp; (try with_reducible rfl)
  (try simp only [Act.put, List.setIfInBounds_toArray, List.set_cons_zero, List.set_cons_succ])
  refine wpAnyH_take (i := 7) (oi := ({ dst := some 18, op := Op.fieldAddr 82 (Operand.tmp 4) 1, type := 0, pos := "ref.go:61", after := #[], guard := none } : Oper)) (v := ?v7) rfl (by kernel_rfl) (by kernel_rfl) (by kernel_rfl) (fun _ _ _ h => h) (Or.inl ⟨by rfl, fun w hSw => ?hy7⟩) (by assumption) ?r7
  case hy7 => (try dsimp only at hSw); go_simp; (try with_reducible rfl)
  (try simp only [Act.put, List.setIfInBounds_toArray, List.set_cons_zero, List.set_cons_succ])
  refine wpAnyH_take (i := 8) (oi := ({ dst := some 19, op := Op.load 3 (Operand.tmp 18), type := 3, pos := "ref.go:61", after := #[{ on := 7, ground := Ground.data }], guard := none } : Oper)) (v := ?v8) rfl (by kernel_rfl) (by kernel_rfl) (by kernel_rfl) (fun _ _ _ h => h) (Or.inl ⟨by rfl, fun w hSw => ?hy8⟩) (by assumption) ?r8
  case hy8 => (try dsimp only at hSw); go_simp; (try with_reducible rfl)
  (try simp only [Act.put, List.setIfInBounds_toArray, List.set_cons_zero, List.set_cons_succ])
  refine wpAnyH_take (i := 9) (oi := ({ dst := some 20, op := Op.move (Operand.tmp 2), type := 86, pos := "ref.go:61", after := #[], guard := none } : Oper)) (v := ?v9) rfl (by kernel_rfl) (by kernel_rfl) (by kernel_rfl) (fun _ _ _ h => h) (Or.inl ⟨by rfl, fun w hSw => ?hy9⟩) (by assumption) ?r9
  case hy9 => (try dsimp only at hSw); go_simp; (try with_reducible rfl)
  (try simp only [Act.put, List.setIfInBounds_toArray, List.set_cons_zero, List.set_cons_succ])
  refine wpAnyH_ready (rs := [10]) (by kernel_rfl) (by simp) ?_
  refine AllReadyH.cons (o := ({ dst := some 21, op := Op.call { callee := Callee.builtin Builtin.append, args := #[Operand.const (Value.slice none 0 0), Operand.tmp 20], argTypes := #[86, 86] }, type := 86, pos := "ref.go:61", after := #[{ on := 9, ground := Ground.data }], guard := none } : Oper)) rfl (fun Kq hKq => ?_) AllReadyH.nil
  (refine step_append_row layO rfl _ _ rfl rfl (row_nil _ w1.heap.size 3) (fun u hu => by cases hu) (Nat.le_refl _) c0 rfl HRD.out (by rw [HN.out]; exact flat_len D) (flat_one' D) (by have := HN.out; have := HB0'.out; omega) ?_; intro v2 w2 hr2 ht2 ho2; obtain ⟨A2, cap2, hv2, hn2, hm2⟩ := hr2.shape; rw [Nat.zero_add] at hv2 hn2; subst hv2)
  refine hKq.out _ _ ?_ (fun hHeld => ?_)
  · exact ⟨(ht2.cell hX1 (fun e => by change (none : Option Nat) = some _ at e; cases e)).trans hHeld.1, (ht2.cell hX1 (fun e => by change (none : Option Nat) = some _ at e; cases e)).trans hHeld.2.1, (ht2.cell hrl1 (fun e => by change (none : Option Nat) = some _ at e; cases e)).trans hHeld.2.2⟩
  clear hKq Kq
  (try simp only [Act.put, List.setIfInBounds_toArray, List.set_cons_zero, List.set_cons_succ])
  refine wpAnyH_take (i := 11) (oi := ({ dst := some 22, op := Op.indexAddr 139 (Operand.tmp 17) (Operand.tmp 19), type := 0, pos := "ref.go:61", after := #[{ on := 6, ground := Ground.data }, { on := 8, ground := Ground.data }, { on := 0, ground := Ground.phase }, { on := 1, ground := Ground.phase }, { on := 2, ground := Ground.phase }, { on := 3, ground := Ground.phase }, { on := 4, ground := Ground.phase }, { on := 5, ground := Ground.phase }, { on := 6, ground := Ground.phase }, { on := 7, ground := Ground.phase }, { on := 8, ground := Ground.phase }, { on := 9, ground := Ground.phase }, { on := 10, ground := Ground.phase }], guard := none } : Oper)) (v := ?v11) rfl (by kernel_rfl) (by kernel_rfl) (by kernel_rfl) (fun _ _ _ h => h) (Or.inl ⟨by rfl, fun w hSw => ?hy11⟩) (by assumption) ?r11
  case hy11 => (try dsimp only at hSw); go_simp; (try with_reducible rfl)
  (try simp only [Act.put, List.setIfInBounds_toArray, List.set_cons_zero, List.set_cons_succ])
  refine wpAnyH_ready (rs := [12]) (by kernel_rfl) (by simp) ?_
  refine AllReadyH.cons (o := ({ dst := none, op := Op.store 86 (Operand.tmp 22) (Operand.tmp 21), type := 0, pos := "ref.go:61", after := #[{ on := 11, ground := Ground.data }, { on := 10, ground := Ground.data }, { on := 10, ground := Ground.chain }, { on := 0, ground := Ground.phase }, { on := 1, ground := Ground.phase }, { on := 2, ground := Ground.phase }, { on := 3, ground := Ground.phase }, { on := 4, ground := Ground.phase }, { on := 5, ground := Ground.phase }, { on := 6, ground := Ground.phase }, { on := 7, ground := Ground.phase }, { on := 8, ground := Ground.phase }, { on := 9, ground := Ground.phase }, { on := 10, ground := Ground.phase }], guard := none } : Oper)) rfl (fun Kq hKq => ?_) AllReadyH.nil
  have k9 := (ht2.cell (g := g) (o := o + i) hgl1 (fun e => by change (none : Option Nat) = some _ at e; cases e)).trans k1; have f9 := (ht2.frozen (g := g) (o := o + i) hgl1 (fun e => by change (none : Option Nat) = some _ at e; cases e)).trans k2; go_simp
  refine hKq.out _ _ ?_ (fun hHeld => ?_)
  · exact ⟨(World.cell?_setCell_other _ _ _ _ (by intro e; injection e with e1; exact hgX e1)).trans hHeld.1, (World.cell?_setCell_other _ _ _ _ (by intro e; injection e with e1; exact hgX e1)).trans hHeld.2.1, (World.cell?_setCell_other _ _ _ _ (by intro e; injection e with e1; exact hrg e1)).trans hHeld.2.2⟩
  clear hKq Kq
  (try simp only [Act.put, List.setIfInBounds_toArray, List.set_cons_zero, List.set_cons_succ])
  refine wpAnyH_done (by kernel_rfl) ?_ _
  go_wp2_with fail
  go_ret
  have hb2 : Below w.heap.size w w2 := (HB.out.drew).trans ((ht2.below (Nat.le_refl _) (fun x hx e => by change (none : Option Nat) = some x at e; cases e)).mono hbs)
  have hr3 : RowE w2 w.heap.size (.slice A2 n cap2) D := by
    have := hr2.base hbs
    rw [Nat.zero_add, List.nil_append] at this
    simp only [HN.out] at this ⊢
    exact this
  refine ⟨rfl, _, ⟨rb, Q, T, _, HF.out.putQ hk9 HI.out HQ.out hb2 hr3⟩, (Turns.of_below hb2).setCell _ _ ⟨_, HOG.out⟩, fresh_ownQ _ _ _ (fun x e => (hr3.lt x e).1)⟩
theorem rputT_yes (h : Rt w base own s M) {i : Nat} (hi : i < (M b).length) (ta tf : Int) :
    Calls Tryz.prog 21 #[s, .agg #[.int .i64 b, .int .i64 (i : Int)], .agg #[.int .u64 ta, .int .u64 tf]] w fun e w' => e = .returned (.bool true) ∧ Rt w' base own s (upd M b ((M b).set i { (M b)[i]! with a := ta, f := tf })) ∧ Turns (Mine own) w w' := by
  have HT := Lib.hid (fun W hW => there_any (h.new (w' := W) hW) b i)
  rw [there_yes hi] at HT
  obtain ⟨rb, Q, T, V, hf⟩ := h
  obtain ⟨k, rfl, hk2, hk9⟩ := hf.nat (b := b) (fun e => by rw [e] at hi; simp at hi)
  obtain rfl := hf.hs
  obtain ⟨g2, o2, c2, g, o, c, e2, e1, og2, og, q1, q2, q3, q4, q5, q6⟩ := hf.bk hk9 hi
  have hc := (hf.hT k hk9).1
  rw [e1] at hc
  have hgl := (hf.fp g _ og).2
  have hrl := (hf.fp rb _ hf.os).2
  have hrg : g ≠ rb := hf.ne og hf.os (by simp)
  have HF := Lib.hid hf; have HI := Lib.hid hi; have HQ := Lib.hid e1; have HOG := Lib.hid og
  have hi' := hi
  obtain ⟨m, hm⟩ : ∃ m, m = (M (k : Int)).length := ⟨_, rfl⟩
  rw [← hm] at hi' hc
  have HK := Lib.hid (fun W (hb : Below w.heap.size w W) => (⟨(hb.cell (p := ⟨rb, 9 + k, none⟩) hrl).trans hc, (hb.cell (p := ⟨g, o + i * 2, none⟩) hgl).trans q3, (hb.frozen (p := ⟨g, o + i * 2, none⟩) hgl).trans q4, (hb.cell (p := ⟨g, o + i * 2 + 1, none⟩) hgl).trans q5, (hb.frozen (p := ⟨g, o + i * 2 + 1, none⟩) hgl).trans q6⟩ : _ ∧ _ ∧ _ ∧ _ ∧ _))
  clear q1 q2 q3 q4 q5 q6 hc hf e1 e2 og og2 hm hi
  go_enter Tryz.func21, Tryz.ntmps21
  go_wp2_with fail
  have hbb : Below w.heap.size w ((w.alloc (.cells #[.int .i64 (k : Int), .int .i64 (i : Int)] 82)).alloc (.cells #[.int .u64 ta, .int .u64 tf] 90)) := (below1 w _).alloc (by simp) _
  have hnew : ((w.alloc (.cells #[.int .i64 (k : Int), .int .i64 (i : Int)] 82)).alloc (.cells #[.int .u64 ta, .int .u64 tf] 90)).heap[w.heap.size]? = some (.cells #[.int .i64 (k : Int), .int .i64 (i : Int)] 82 (0, 0)) :=
    (Below.heap_alloc _ _ _ (by simp)).trans (heap_alloc_new w _)
  refine (HT.out _ hbb).mono ?_
  rintro e w1 ⟨rfl, hb1⟩
  have hnew1 := (hb1.block _ (by simp; omega)).trans hnew
  have c0 : w1.cell? ⟨w.heap.size, 0, none⟩ = some (.int .i64 (k : Int)) := cell_row hnew1 0
  have c1 : w1.cell? ⟨w.heap.size, 1, none⟩ = some (.int .i64 (i : Int)) := cell_row hnew1 1
  have hx := pair_facts hb1
  rw [show (w.alloc (.cells #[Value.int .i64 (k : Int), .int .i64 (i : Int)] 82)).heap.size = w.heap.size + 1 by simp] at hx
  have HB := Lib.hid (hbb.trans (hb1.mono hbb.size))
  obtain ⟨k0, k1, k2, k3, k4⟩ := HK.out w1 HB.out
  have x0 : w1.cell? ⟨w.heap.size + 1, 0, none⟩ = some (.int .u64 ta) := cell_row hx 0
  have x1 : w1.cell? ⟨w.heap.size + 1, 1, none⟩ = some (.int .u64 tf) := cell_row hx 1
  have hgX : g ≠ w.heap.size := by omega
  have hgY : g ≠ w.heap.size + 1 := by omega
  clear hb1 hbb hnew hnew1 hx
  obtain ⟨Y, hY⟩ : ∃ Y, Y = w.heap.size + 1 := ⟨_, rfl⟩
  rw [← hY] at x0 x1 hgY ⊢
  clear hY
  obtain ⟨X, hX⟩ : ∃ X, X = w.heap.size := ⟨_, rfl⟩
  rw [← hX] at c0 c1 hgX ⊢
  clear hX
  go_upto_region 3 with (fail)
  go_region
  all_goals
    go_wp2_with fail
    go_ret
    have hS := (HF.out.new HB.out).putT hk9 HI.out HQ.out ta tf
    refine ⟨rfl, ⟨rb, Q, T, V, hS.keep (Turns.refl (fun _ => False) _).drew (fun _ _ e => e)⟩, ?_⟩
    exact (((Turns.of_below HB.out).setCell _ _ ⟨_, HOG.out⟩).setCell _ _ ⟨_, HOG.out⟩).drew
end
end Go.Proofs.YtdodloannlfnlaaGreat.S10
namespace Go.Proofs.YtdodloannlfnlaaGreat.S10
open Go.Proofs.YtdodloannlfnlaaGreat
open Go.RowKit

theorem tflat_snoc (L : List Bk) (x : Bk) : tflat (L ++ [x]) = tflat L ++ [.int .u64 x.a, .int .u64 x.f] := by
  refine (tflat_ext (by simp [tflat_len]; omega) fun j hj => ?_).symm
  rw [List.length_append, List.length_singleton] at hj
  by_cases h : j < L.length * 2
  · rw [List.getElem?_append_left (by rw [tflat_len]; exact h), tflat_at L h]
    unfold tcell
    rw [get_app_ne (by omega)]
  · rw [List.getElem?_append_right (by rw [tflat_len]; omega), tflat_len]
    unfold tcell
    rw [show j / 2 = L.length by omega, get_app_last]
    have : j = L.length * 2 ∨ j = L.length * 2 + 1 := by omega
    rcases this with rfl | rfl
    · simp
    · rw [show L.length * 2 + 1 - L.length * 2 = 1 by omega]
      simp [Nat.add_mod]
theorem tflat_fresh (now : Int) (Ls : List (List Ent)) : tflat (fresh now Ls) = tflat (List.replicate Ls.length ⟨now, now, []⟩) := by
  refine (tflat_ext (by simp [tflat_len, fresh_len]) fun j hj => ?_).symm
  rw [fresh_len] at hj
  rw [tflat_at _ (by rw [List.length_replicate]; exact hj)]
  unfold tcell
  rw [fresh_at now Ls (by omega)]
  have : (List.replicate Ls.length (⟨now, now, []⟩ : Bk))[j / 2]! = ⟨now, now, []⟩ := by
    rw [List.getElem!_eq_getElem?_getD, List.getElem?_replicate, if_pos (by omega)]; rfl
  rw [this]
theorem info86 : ∃ i, Tryz.prog.info? 90 = some i ∧ i.zero = some (.agg #[.int .u64 0, .int .u64 0]) ∧ i.size = 2 ∧ i.bytes = 16 := info_of (by kernel_rfl)
theorem layT : Lay 142 90 2 16 (.agg #[.int .u64 0, .int .u64 0]) := ⟨Tryz.underlying142, info86, rfl, by decide, by decide⟩
theorem rd_two (w : World) (x y : Value) (T : TypeId) : Rd (w.alloc (.cells #[x, y] T)) (w.heap.size + 1) (some ⟨w.heap.size, 0, none⟩) [x, y] := fun _ => by
  refine ⟨w.heap.size, 0, rfl, by omega, fun j u e => ?_⟩
  have hnew := heap_alloc_new w (.cells #[x, y] T)
  rw [cell_row hnew, Nat.zero_add]
  simpa using e
theorem rbegin_any (x : Int) (w : World) : Calls Tryz.prog 91 #[.int .u64 x] w fun e w' => e = .returned (.agg #[.int .u64 x, .int .u64 x]) ∧ Below w.heap.size w w' := by
  go_enter Tryz.func91, Tryz.ntmps91
  go_wp2
  exact bodyPost_ret (v := .agg #[.int .u64 x, .int .u64 x]) (by simp [results, Tryz.results91, go_sem]) rfl ⟨rfl, below1 w _⟩
theorem tflat_one (L : List Bk) : ∀ u ∈ tflat L, u.oneCell' = true := fun u hu => by
  simp only [tflat, List.mem_map] at hu
  obtain ⟨j, _, rfl⟩ := hu
  unfold tcell
  split <;> rfl
set_option maxHeartbeats 1000000 in
theorem rbegins_any {w : World} {b : Int} {n : Nat} (hs : ∀ w, Calls Tryz.prog 89 #[.int .i64 b] w fun e w' => e = .returned (.int .i64 (n : Nat)) ∧ w = w') (hn : n ≤ 256) (now : Int) :
    Calls Tryz.prog 49 #[.int .i64 b, .int .u64 now] w fun e w' => ∃ s, e = .returned s ∧ Row w' w.heap.size 2 s n (tflat (List.replicate n ⟨now, now, []⟩)) ∧ Below w.heap.size w w' := by
  have HS := Lib.hid hs
  clear hs
  go_enter Tryz.func49, Tryz.ntmps49
  go_wp2_with fail
  go_loopg [5, 6] n (fun q s5 s6 wx => ∃ k : Nat, k ≤ n ∧ q = n - k ∧ s6 = .int .i64 (k : Int) ∧ Row wx w.heap.size 2 s5 k (tflat (List.replicate k ⟨now, now, []⟩)) ∧ Below w.heap.size w wx)
  case atStart => exact ⟨0, by omega, rfl, rfl, row_nil _ _ _, Below.refl _ _⟩
  case round =>
    obtain ⟨k, hk, rfl, rfl, hrow, hb⟩ := hrel
    have HROW := Lib.hid hrow; have HB := Lib.hid hb
    clear hrow hb
    by_cases hkn : k < n
    · go_wp2_with (go_at_call 89; refine (HS.out _).mono ?_; rintro e w' ⟨rfl, rfl⟩)
      refine (rbegin_any now _).mono ?_
      rintro e w1 ⟨rfl, hb1⟩
      have HB1 := Lib.hid hb1
      clear hb1
      go_wp2_with (at_builtin; refine wpList_append_row layT rfl _ _ rfl rfl ((HROW.out.new HB1.out).new (below1 _ _)) (tflat_one _) (by have := HB.out.size; have := HB1.out.size; simp; omega) 1 rfl (rd_two w1 _ _ 90) rfl (fun u hu => by simp at hu; rw [hu]; rfl) (by omega) ?_; intro v' w2 hr2 ht2 ho2; (have HR2 := Lib.hid hr2); (have HT2 := Lib.hid ht2); (clear hr2 ht2 ho2))
      go_roundg (n - (k + 1))
      case measure => omega
      case rel =>
        refine ⟨k + 1, by omega, rfl, by go_num, ?_, ?_⟩
        · have := HR2.out
          rw [← tflat_snoc (List.replicate k ⟨now, now, []⟩) ⟨now, now, []⟩, ← List.replicate_succ'] at this
          exact this
        · have t3 := ((Turns.refl _ w1).alloc _).trans HT2.out (fun k _ e => e)
          exact (HB.out.trans (HB1.out.mono HB.out.size)).trans (t3.below (by have := HB.out.size; have := HB1.out.size; omega) (fun x hx e => by have := (HROW.out.lt x e).1; omega))
    · obtain rfl : k = n := by omega
      go_wp2_with (go_at_call 89; refine (HS.out _).mono ?_; rintro e w' ⟨rfl, rfl⟩)
      go_ret
      exact ⟨_, rfl, HROW.out, HB.out⟩
def NewT (s : Value) (ss : List Value) (b : Int) (x : Nat) (r : Role) : Prop := (s.ownBlock = some x ∧ r = .tab b) ∨ ∃ i v, ss[i]? = some v ∧ v.ownBlock = some x ∧ r = .q b i
theorem NewT.fun {w : World} {base : Nat} {s : Value} {ss : List Value} {Ls : List (List Ent)} (h : Tab w base s ss Ls) {b : Int} {x : Nat} {r r' : Role} (e : NewT s ss b x r) (e' : NewT s ss b x r') : r = r' := by
  rcases e with ⟨h1, rfl⟩ | ⟨i, v, hv, h1, rfl⟩
  · rcases e' with ⟨_, rfl⟩ | ⟨j, u, hu, h2, rfl⟩
    · rfl
    · exact absurd h1 (h.off j u x hu h2)
  · rcases e' with ⟨h2, rfl⟩ | ⟨j, u, hu, h2, rfl⟩
    · exact absurd h2 (h.off i v x hv h1)
    · rw [h.apart i j v u x hv hu h1 h2]
theorem NewT.lt {w : World} {base : Nat} {s : Value} {ss : List Value} {Ls : List (List Ent)} (h : Tab w base s ss Ls) {b : Int} {x : Nat} {r : Role} (e : NewT s ss b x r) : base ≤ x ∧ x < w.heap.size := by
  rcases e with ⟨h1, rfl⟩ | ⟨i, v, hv, h1, rfl⟩
  · exact h.row.lt x h1
  · exact h.lt hv h1
theorem tab_qflat {w : World} {base : Nat} {s : Value} {ss : List Value} {Ls : List (List Ent)} (h : Tab w base s ss Ls) : Row w base 1 s Ls.length (qflat Ls.length fun i => (ss[i]?).getD nilS) := by
  have hl := h.len
  have : ss = qflat Ls.length fun i => (ss[i]?).getD nilS := by
    refine List.ext_getElem? fun j => ?_
    by_cases hj : j < Ls.length
    · rw [qflat_at _ hj, List.getElem?_eq_getElem (by omega)]; rfl
    · rw [List.getElem?_eq_none (by omega), List.getElem?_eq_none (by rw [qflat_len]; omega)]
  have hr := h.row
  rw [this] at hr
  exact hr
end Go.Proofs.YtdodloannlfnlaaGreat.S10
namespace Go.Proofs.YtdodloannlfnlaaGreat.S10
open Go.Proofs.YtdodloannlfnlaaGreat
open Go.RowKit

theorem rehash_nil {w : World} {b : Int} {n : Nat} {h : Nat → Nat} (K : Kit b n h) : Calls Tryz.prog 48 #[nilS, .int .i64 b] w fun e w' => ∃ s ss, e = .returned s ∧ Tab w' w.heap.size s ss (List.replicate n []) ∧ Below w.heap.size w w' := by
  have hq : Qs w w.heap.size none ([] : List (List Ent)) := Qs.nil
  have hk : Keys (([] : List (List Ent)).flatten) := fun e he => by simp at he
  by_cases h0 : 0 < n
  · have := rrehash_any (w := w) (c := 0) (Ls := []) h K.rsize K.rhash K.few hq (Nat.le_refl _) (by simp) (by omega) hk (by simp) (by simp)
    rw [List.flatten_nil, reh_nil] at this
    exact this
  · obtain rfl : n = 0 := by omega
    have := rrehash_any (w := w) (c := 0) (Ls := []) h K.rsize K.rhash K.few hq (Nat.le_refl _) (by simp) (by omega) hk (by simp) (by simp)
    rw [List.flatten_nil, reh_nil] at this
    exact this
set_option maxHeartbeats 4000000 in
set_option maxRecDepth 20000 in
theorem rnew_any (now : Int) (w : World) : Calls Tryz.prog 39 #[.int .u64 now] w fun e w' => ∃ s own, e = .returned s ∧ Rt w' w.heap.size own s (M0 now) ∧ Below w.heap.size w w' := by
  obtain ⟨h, hk, -⟩ := kits
  have K : Kit 2 4 (h 2) := hk 2 (by omega) (by omega)
  have HR := Lib.hid (fun W => rehash_nil (w := W) K)
  have HBG := Lib.hid (fun W => rbegins_any (w := W) K.rsize K.few now)
  clear hk K
  have hz : ∀ W, (zeroValue 145).run Tryz.prog W = .ok (.agg #[nilS, nilS, nilS, nilS, nilS, nilS, nilS, nilS, nilS, nilS, nilS, nilS, nilS, nilS, nilS, nilS, nilS, nilS]) W := fun W => by
    simp [zeroValue, go_sem, Tryz.underlying145]; rfl
  go_enter Tryz.func39, Tryz.ntmps39
  go_upto_region 2 with (fail)
  have hnew := heap_alloc_new w (.cells #[nilS, nilS, nilS, nilS, nilS, nilS, nilS, nilS, nilS, nilS, nilS, nilS, nilS, nilS, nilS, nilS, nilS, nilS] 145)
  have hb0 := below1 w (.cells #[nilS, nilS, nilS, nilS, nilS, nilS, nilS, nilS, nilS, nilS, nilS, nilS, nilS, nilS, nilS, nilS, nilS, nilS] 145)
  have hs0 : (w.alloc (.cells #[nilS, nilS, nilS, nilS, nilS, nilS, nilS, nilS, nilS, nilS, nilS, nilS, nilS, nilS, nilS, nilS, nilS, nilS] 145)).heap.size = w.heap.size + 1 := by simp
  generalize w.alloc (.cells #[nilS, nilS, nilS, nilS, nilS, nilS, nilS, nilS, nilS, nilS, nilS, nilS, nilS, nilS, nilS, nilS, nilS, nilS] 145) = w0 at *
  obtain ⟨X, hX⟩ : ∃ X, X = w.heap.size := ⟨_, rfl⟩
  rw [← hX] at hnew ⊢
  have hall : ∀ j, j < 18 → w0.drew.cell? ⟨X, j, none⟩ = some nilS ∧ w0.drew.frozen? ⟨X, j, none⟩ = false := fun j hj => by
    refine ⟨?_, froz_row hnew j⟩
    have := cell_row hnew j
    rw [show w0.drew.cell? ⟨X, j, none⟩ = w0.cell? ⟨X, j, none⟩ from rfl, this]
    have : j = 0 ∨ j = 1 ∨ j = 2 ∨ j = 3 ∨ j = 4 ∨ j = 5 ∨ j = 6 ∨ j = 7 ∨ j = 8 ∨ j = 9 ∨ j = 10 ∨ j = 11 ∨ j = 12 ∨ j = 13 ∨ j = 14 ∨ j = 15 ∨ j = 16 ∨ j = 17 := by omega
    rcases this with rfl | rfl | rfl | rfl | rfl | rfl | rfl | rfl | rfl | rfl | rfl | rfl | rfl | rfl | rfl | rfl | rfl | rfl <;> rfl
  have hXl : X < w0.drew.heap.size := by show X < w0.heap.size; omega
  have HALL := Lib.hid hall; have HB0 := Lib.hid hb0; have HX := Lib.hid hX; have HS0 := Lib.hid hs0
  clear hnew hb0 hz hall hX hs0
  refine wp_region_held_drew (S := fun _ => True) (by kernel_rfl) ?_ (fun hHeld => ?_)
  · trivial
  refine wpAnyH_take (i := 0) (oi := ({ dst := some 6, op := Op.move (Operand.tmp 3), type := 65, pos := "ref.go:35", after := #[], guard := none } : Oper)) (v := ?va0) rfl (by kernel_rfl) (by kernel_rfl) (by kernel_rfl) (fun _ _ _ h => h) (Or.inl ⟨by rfl, fun w hSw => ?hya0⟩) (by assumption) ?ra0
  case hya0 => (try dsimp only at hSw); go_simp; (try with_reducible rfl)
  (try simp only [Act.put, List.setIfInBounds_toArray, List.set_cons_zero, List.set_cons_succ])
  refine wpAnyH_take (i := 2) (oi := ({ dst := some 8, op := Op.nilCheck (Operand.tmp 6), type := 0, pos := "ref.go:35", after := #[{ on := 0, ground := Ground.data }], guard := none } : Oper)) (v := ?va2) rfl (by kernel_rfl) (by kernel_rfl) (by kernel_rfl) (fun _ _ _ h => h) (Or.inl ⟨by rfl, fun w hSw => ?hya2⟩) (by assumption) ?ra2
  case hya2 => (try dsimp only at hSw); go_simp; (try with_reducible rfl)
  (try simp only [Act.put, List.setIfInBounds_toArray, List.set_cons_zero, List.set_cons_succ])
  refine wpAnyH_take (i := 3) (oi := ({ dst := some 9, op := Op.fieldAddr 145 (Operand.tmp 8) 0, type := 0, pos := "ref.go:35", after := #[{ on := 2, ground := Ground.data }], guard := none } : Oper)) (v := ?va3) rfl (by kernel_rfl) (by kernel_rfl) (by kernel_rfl) (fun _ _ _ h => h) (Or.inl ⟨by rfl, fun w hSw => ?hya3⟩) (by assumption) ?ra3
  case hya3 => (try dsimp only at hSw); go_simp; (try with_reducible rfl)
  (try simp only [Act.put, List.setIfInBounds_toArray, List.set_cons_zero, List.set_cons_succ])
  refine wpAnyH_ready (rs := [1]) (by kernel_rfl) (by simp) ?_
  refine AllReadyH.cons (o := ({ dst := some 7, op := Op.call { callee := Callee.value (Operand.func 48), args := #[Operand.const (Value.slice none 0 0), Operand.const (Value.int IntKind.i64 2)], argTypes := #[139, 3] }, type := 139, pos := "ref.go:35", after := #[], guard := none } : Oper)) rfl (fun Kq hKq => ?_) AllReadyH.nil
  go_simp
  (refine (HR.out _).mono ?_; rintro e w1 ⟨s1, ss1, rfl, ht1, hb1⟩; obtain ⟨A1, c1, hse, hc1, hc19⟩ := ht1.shape; rw [List.length_replicate] at hse hc1; subst hse; have HT1 := Lib.hid ht1; have HB1 := Lib.hid hb1; clear ht1)
  refine hKq.out _ _ ?_ (fun hHeld => ?_)
  · trivial
  clear hKq Kq
  (try simp only [Act.put, List.setIfInBounds_toArray, List.set_cons_zero, List.set_cons_succ])
  refine wpAnyH_take (i := 4) (oi := ({ dst := some 10, op := Op.indexAddr 141 (Operand.tmp 9) (Operand.const (Value.int IntKind.i64 2)), type := 0, pos := "ref.go:35", after := #[{ on := 3, ground := Ground.data }, { on := 0, ground := Ground.phase }, { on := 1, ground := Ground.phase }], guard := none } : Oper)) (v := ?va4) rfl (by kernel_rfl) (by kernel_rfl) (by kernel_rfl) (fun _ _ _ h => h) (Or.inl ⟨by rfl, fun w hSw => ?hya4⟩) (by assumption) ?ra4
  case hya4 => (try dsimp only at hSw); go_simp; (try with_reducible rfl)
  (try simp only [Act.put, List.setIfInBounds_toArray, List.set_cons_zero, List.set_cons_succ])
  refine wpAnyH_ready (rs := [5]) (by kernel_rfl) (by simp) ?_
  refine AllReadyH.cons (o := ({ dst := none, op := Op.store 139 (Operand.tmp 10) (Operand.tmp 7), type := 0, pos := "ref.go:35", after := #[{ on := 4, ground := Ground.data }, { on := 1, ground := Ground.data }, { on := 1, ground := Ground.chain }, { on := 0, ground := Ground.phase }, { on := 1, ground := Ground.phase }], guard := none } : Oper)) rfl (fun Kq hKq => ?_) AllReadyH.nil
  have k2 := (hb1.cell (p := ⟨X, 2, none⟩) hXl).trans (HALL.out 2 (by omega)).1; have f2 := (hb1.frozen (p := ⟨X, 2, none⟩) hXl).trans (HALL.out 2 (by omega)).2; clear hb1; go_simp
  refine hKq.out _ _ ?_ (fun hHeld => ?_)
  · trivial
  clear hKq Kq
  (try simp only [Act.put, List.setIfInBounds_toArray, List.set_cons_zero, List.set_cons_succ])
  refine wpAnyH_done (by kernel_rfl) ?_ _
  have hX2 : X < (w1.setCell ⟨X, 2, none⟩ (.slice A1 4 c1)).drew.heap.size := by
    have := HB1.out.size
    show X < (w1.setCell _ _).heap.size
    simp [World.setCell]; omega
  have H11 : Hid (∀ W, Below (w1.setCell ⟨X, 2, none⟩ (.slice A1 4 c1)).drew.heap.size (w1.setCell ⟨X, 2, none⟩ (.slice A1 4 c1)).drew W → W.cell? ⟨X, 11, none⟩ = some nilS ∧ W.frozen? ⟨X, 11, none⟩ = false) := Lib.hid fun W hb =>
    ⟨(hb.cell (p := ⟨X, 11, none⟩) hX2).trans ((World.cell?_setCell_other _ _ _ _ (by simp)).trans ((HB1.out.cell (p := ⟨X, 11, none⟩) hXl).trans (HALL.out 11 (by omega)).1)), (hb.frozen (p := ⟨X, 11, none⟩) hX2).trans ((World.frozen?_setCell _ _ _ _).trans ((HB1.out.frozen (p := ⟨X, 11, none⟩) hXl).trans (HALL.out 11 (by omega)).2))⟩
  go_upto_region 3 with (fail)
  refine wp_region_held_drew (S := fun _ => True) (by kernel_rfl) ?_ (fun hHeld => ?_)
  · trivial
  refine wpAnyH_take (i := 0) (oi := ({ dst := some 11, op := Op.move (Operand.tmp 3), type := 65, pos := "ref.go:36", after := #[], guard := none } : Oper)) (v := ?vb0) rfl (by kernel_rfl) (by kernel_rfl) (by kernel_rfl) (fun _ _ _ h => h) (Or.inl ⟨by rfl, fun w hSw => ?hyb0⟩) (by assumption) ?rb0
  case hyb0 => (try dsimp only at hSw); go_simp; (try with_reducible rfl)
  (try simp only [Act.put, List.setIfInBounds_toArray, List.set_cons_zero, List.set_cons_succ])
  refine wpAnyH_take (i := 1) (oi := ({ dst := some 12, op := Op.move (Operand.tmp 0), type := 27, pos := "ref.go:36", after := #[], guard := none } : Oper)) (v := ?vb1) rfl (by kernel_rfl) (by kernel_rfl) (by kernel_rfl) (fun _ _ _ h => h) (Or.inl ⟨by rfl, fun w hSw => ?hyb1⟩) (by assumption) ?rb1
  case hyb1 => (try dsimp only at hSw); go_simp; (try with_reducible rfl)
  (try simp only [Act.put, List.setIfInBounds_toArray, List.set_cons_zero, List.set_cons_succ])
  refine wpAnyH_take (i := 3) (oi := ({ dst := some 14, op := Op.nilCheck (Operand.tmp 11), type := 0, pos := "ref.go:36", after := #[{ on := 0, ground := Ground.data }], guard := none } : Oper)) (v := ?vb3) rfl (by kernel_rfl) (by kernel_rfl) (by kernel_rfl) (fun _ _ _ h => h) (Or.inl ⟨by rfl, fun w hSw => ?hyb3⟩) (by assumption) ?rb3
  case hyb3 => (try dsimp only at hSw); go_simp; (try with_reducible rfl)
  (try simp only [Act.put, List.setIfInBounds_toArray, List.set_cons_zero, List.set_cons_succ])
  refine wpAnyH_take (i := 4) (oi := ({ dst := some 15, op := Op.fieldAddr 145 (Operand.tmp 14) 1, type := 0, pos := "ref.go:36", after := #[{ on := 3, ground := Ground.data }], guard := none } : Oper)) (v := ?vb4) rfl (by kernel_rfl) (by kernel_rfl) (by kernel_rfl) (fun _ _ _ h => h) (Or.inl ⟨by rfl, fun w hSw => ?hyb4⟩) (by assumption) ?rb4
  case hyb4 => (try dsimp only at hSw); go_simp; (try with_reducible rfl)
  (try simp only [Act.put, List.setIfInBounds_toArray, List.set_cons_zero, List.set_cons_succ])
  refine wpAnyH_ready (rs := [2]) (by kernel_rfl) (by simp) ?_
  refine AllReadyH.cons (o := ({ dst := some 13, op := Op.call { callee := Callee.value (Operand.func 49), args := #[Operand.const (Value.int IntKind.i64 2), Operand.tmp 12], argTypes := #[3, 27] }, type := 142, pos := "ref.go:36", after := #[{ on := 1, ground := Ground.data }], guard := none } : Oper)) rfl (fun Kq hKq => ?_) AllReadyH.nil
  go_simp
  (refine (HBG.out _).mono ?_; rintro e w3 ⟨s2, rfl, hr2, hb3⟩; obtain ⟨A2, c2, rfl, hc2, hc29⟩ := hr2.shape; have HR2 := Lib.hid hr2; have HB3 := Lib.hid hb3; clear hr2)
  refine hKq.out _ _ ?_ (fun hHeld => ?_)
  · trivial
  clear hKq Kq
  (try simp only [Act.put, List.setIfInBounds_toArray, List.set_cons_zero, List.set_cons_succ])
  refine wpAnyH_take (i := 5) (oi := ({ dst := some 16, op := Op.indexAddr 143 (Operand.tmp 15) (Operand.const (Value.int IntKind.i64 2)), type := 0, pos := "ref.go:36", after := #[{ on := 4, ground := Ground.data }, { on := 0, ground := Ground.phase }, { on := 1, ground := Ground.phase }, { on := 2, ground := Ground.phase }], guard := none } : Oper)) (v := ?vb5) rfl (by kernel_rfl) (by kernel_rfl) (by kernel_rfl) (fun _ _ _ h => h) (Or.inl ⟨by rfl, fun w hSw => ?hyb5⟩) (by assumption) ?rb5
  case hyb5 => (try dsimp only at hSw); go_simp; (try with_reducible rfl)
  (try simp only [Act.put, List.setIfInBounds_toArray, List.set_cons_zero, List.set_cons_succ])
  refine wpAnyH_ready (rs := [6]) (by kernel_rfl) (by simp) ?_
  refine AllReadyH.cons (o := ({ dst := none, op := Op.store 142 (Operand.tmp 16) (Operand.tmp 13), type := 0, pos := "ref.go:36", after := #[{ on := 5, ground := Ground.data }, { on := 2, ground := Ground.data }, { on := 2, ground := Ground.chain }, { on := 0, ground := Ground.phase }, { on := 1, ground := Ground.phase }, { on := 2, ground := Ground.phase }], guard := none } : Oper)) rfl (fun Kq hKq => ?_) AllReadyH.nil
  obtain ⟨k3, f3⟩ := H11.out w3 hb3; clear hb3; go_simp
  refine hKq.out _ _ ?_ (fun hHeld => ?_)
  · trivial
  clear hKq Kq
  (try simp only [Act.put, List.setIfInBounds_toArray, List.set_cons_zero, List.set_cons_succ])
  refine wpAnyH_done (by kernel_rfl) ?_ _
  have hs1 := HB1.out.size; have hs2 := HB3.out.size
  have hz1 : (w1.setCell ⟨X, 2, none⟩ (.slice A1 4 c1)).drew.heap.size = w1.heap.size := by show (w1.setCell _ _).heap.size = _; simp [World.setCell]
  have hw0 : w0.drew.heap.size = w.heap.size + 1 := HS0.out
  rw [hz1] at hs2
  rw [hw0] at hs1
  have hXw := HX.out
  have t12 : Turns (fun x => x = X) w1 (w1.setCell ⟨X, 2, none⟩ (.slice A1 4 c1)).drew := ((Turns.refl (fun x => x = X) w1).setCell ⟨X, 2, none⟩ _ rfl).drew
  have t13 : Turns (fun x => x = X) w1 w3 := t12.trans (Turns.of_below (S := fun x => x = X) HB3.out) (fun _ _ e => e)
  have t34 : Turns (fun x => x = X) w3 (w3.setCell ⟨X, 11, none⟩ (.slice A2 4 c2)) := (Turns.refl (fun x => x = X) w3).setCell ⟨X, 11, none⟩ _ rfl
  have t14 := t13.trans t34 (fun _ _ e => e)
  have b04 : Below w.heap.size w (w3.setCell ⟨X, 11, none⟩ (.slice A2 4 c2)) := (HB0.out.drew.trans (HB1.out.mono (by omega))).trans (t14.below (by omega) (fun k hk e => by omega))
  have htab := HT1.out
  have hl2 := HR2.out.lt
  rw [hz1] at hl2
  have hz4 := t34.size
  have hnl : ∀ x r, NewT (.slice A1 4 c1) ss1 2 x r → w.heap.size + 1 ≤ x ∧ x < w1.heap.size := fun x r e => by
    have := NewT.lt htab e; omega
  obtain ⟨own, o1, -, o3⟩ := own_new (fun _ => none) (fun x r => (x = X ∧ r = .set) ∨ NewT (.slice A1 4 c1) ss1 2 x r ∨ ((Value.slice A2 4 c2).ownBlock = some x ∧ r = .tim 2)) (fun _ => False) 0 (fun x r r' e e' => by
    rcases e with ⟨h1, rfl⟩ | h1 | ⟨h1, rfl⟩
    · rcases e' with ⟨h2, rfl⟩ | h2 | ⟨h2, rfl⟩
      · rfl
      · have := hnl x _ h2; omega
      · have := hl2 x h2; omega
    · rcases e' with ⟨h2, rfl⟩ | h2 | ⟨h2, rfl⟩
      · have := hnl x _ h1; omega
      · exact NewT.fun htab h1 h2
      · have := hl2 x h2; have := hnl x _ h1; omega
    · rcases e' with ⟨h2, rfl⟩ | h2 | ⟨h2, rfl⟩
      · have := hl2 x h1; omega
      · have := hl2 x h1; have := hnl x _ h2; omega
      · rfl) (fun _ _ _ => Nat.zero_le _) (fun _ _ e => by cases e)
  have H : RtF (w3.setCell ⟨X, 11, none⟩ (.slice A2 4 c2)) w.heap.size own (.pointer (some ⟨X, 0, none⟩)) (M0 now) X (upd (fun _ => nilS) 2 (.slice A1 4 c1)) (upd (fun _ => nilS) 2 (.slice A2 4 c2)) (upd (fun _ _ => nilS) 2 (fun i => (ss1[i]?).getD nilS)) := by
    have hM2 : M0 now ((2 : Nat) : Int) = fresh now (List.replicate 4 []) := upd_same _ _ _
    have hMo : ∀ b : Int, b ≠ 2 → M0 now b = [] := fun b hb => upd_ne _ _ hb
    have hXl3 : X < w3.heap.size := by omega
    have hsame : ∀ j, j ≠ 2 → j ≠ 11 → j < 18 → (w3.setCell ⟨X, 11, none⟩ (.slice A2 4 c2)).cell? ⟨X, j, none⟩ = some nilS := fun j h1 h2 hj =>
      (World.cell?_setCell_other _ _ _ _ (by simp <;> omega)).trans ((HB3.out.cell (p := ⟨X, j, none⟩) hX2).trans ((World.cell?_setCell_other _ _ _ _ (by simp <;> omega)).trans ((HB1.out.cell (p := ⟨X, j, none⟩) hXl).trans (HALL.out j hj).1)))
    have hfz : ∀ j, j < 18 → (w3.setCell ⟨X, 11, none⟩ (.slice A2 4 c2)).frozen? ⟨X, j, none⟩ = false := fun j hj =>
      (World.frozen?_setCell _ _ _ _).trans ((HB3.out.frozen (p := ⟨X, j, none⟩) hX2).trans ((World.frozen?_setCell _ _ _ _).trans ((HB1.out.frozen (p := ⟨X, j, none⟩) hXl).trans (HALL.out j hj).2)))
    have h2c : (w3.setCell ⟨X, 11, none⟩ (.slice A2 4 c2)).cell? ⟨X, 2, none⟩ = some (.slice A1 4 c1) :=
      (World.cell?_setCell_other _ _ _ _ (by simp)).trans ((HB3.out.cell (p := ⟨X, 2, none⟩) hX2).trans (World.cell?_setCell_same _ _ _ k2))
    have h11c : (w3.setCell ⟨X, 11, none⟩ (.slice A2 4 c2)).cell? ⟨X, 11, none⟩ = some (.slice A2 4 c2) := World.cell?_setCell_same _ _ _ k3
    refine ⟨fun x r e => ?_, rfl, o1 _ _ (.inl ⟨rfl, rfl⟩), fun j hj => ⟨?_, hfz j (by omega)⟩, fun j hj => ⟨?_, hfz _ (by omega)⟩, fun b hb => hMo b (by omega), fun j hj => ?_, fun j hj => ?_, fun j i hi => ?_, fun j x hj e => ?_, fun j x hj e => ?_, fun j i x hi e => ?_⟩
    · have hz5 : w3.heap.size ≤ (w3.setCell ⟨X, 11, none⟩ (.slice A2 4 c2)).heap.size := hz4
      rcases o3 x r e with h' | ⟨rfl, rfl⟩ | h' | ⟨h', rfl⟩
      · cases h'
      · omega
      · have := hnl x r h'; omega
      · have := hl2 x h'; omega
    · by_cases e : j = 2
      · subst e; rw [upd_same]; exact h2c
      · rw [upd_ne _ _ e]; exact hsame j e (by omega) (by omega)
    · by_cases e : j = 2
      · subst e; rw [upd_same]; exact h11c
      · rw [upd_ne _ _ e]; exact hsame _ (by omega) (by omega) (by omega)
    · by_cases e : j = 2
      · subst e
        rw [upd_same, upd_same, hM2, fresh_len, List.length_replicate]
        have := tab_qflat htab
        rw [List.length_replicate] at this
        exact (this.keep t14 (fun x e e2 => by have := htab.row.lt x e; omega)).base (Nat.zero_le _)
      · rw [upd_ne _ _ e, hMo _ (by omega)]
        exact row_nil _ _ _
    · by_cases e : j = 2
      · subst e
        rw [upd_same, hM2, fresh_len, tflat_fresh, List.length_replicate]
        exact (HR2.out.keep t34 (fun x e e2 => by have := hl2 x e; omega)).base (Nat.zero_le _)
      · rw [upd_ne _ _ e, hMo _ (by omega)]
        exact row_nil _ _ _
    · by_cases e : j = 2
      · subst e
        rw [hM2, fresh_len] at hi
        rw [upd_same, hM2, fresh_at _ _ hi]
        obtain ⟨v, hv, hr, _⟩ := htab.qs i hi
        rw [hv]
        exact (hr.keep t14 (fun x e e2 => by have := htab.lt hv e; omega)).base (Nat.zero_le _)
      · rw [hMo _ (by omega)] at hi
        simp at hi
    · by_cases ej : j = 2
      · subst ej
        rw [upd_same] at e
        exact o1 _ _ (.inr (.inl (.inl ⟨e, rfl⟩)))
      · rw [upd_ne _ _ ej] at e
        simp [Value.ownBlock] at e
    · by_cases ej : j = 2
      · subst ej
        rw [upd_same] at e
        exact o1 _ _ (.inr (.inr ⟨e, rfl⟩))
      · rw [upd_ne _ _ ej] at e
        simp [Value.ownBlock] at e
    · by_cases ej : j = 2
      · subst ej
        rw [hM2, fresh_len] at hi
        rw [upd_same] at e
        obtain ⟨v, hv, hr, _⟩ := htab.qs i hi
        rw [hv] at e
        exact o1 _ _ (.inr (.inl (.inr ⟨i, v, hv, e, rfl⟩)))
      · rw [hMo _ (by omega)] at hi
        simp at hi
  have HH := Lib.hid H; have HB4 := Lib.hid b04
  clear H b04 t14 t34 t13 t12 hnl hl2 hz4 htab o1 o3 hXw hw0 hs1 hs2 hz1
  go_wp2_with fail
  go_ret
  exact ⟨_, rfl, ⟨own, X, _, _, _, HH.out⟩, HB4.out⟩
end Go.Proofs.YtdodloannlfnlaaGreat.S10
namespace Go.Proofs.YtdodloannlfnlaaGreat.S10
open Go.Proofs.YtdodloannlfnlaaGreat
open Go.RowKit

section
variable {w : World} {base : Nat} {own : Nat → Option Role} {s : Value} {M : Int → List Bk}
theorem rgrow_no (h : Rt w base own s M) {fr tg : Int} (now : Int) (hno : M fr = [] ∨ tg ≤ fr ∨ 8 < tg ∨ M tg ≠ []) :
    Calls Tryz.prog 13 #[s, .int .i64 fr, .int .i64 tg, .int .u64 now] w fun e w' => e = .returned (.bool false) ∧ w = w' := by
  have HF := rhas_any h fr
  have HT := rhas_any h tg
  by_cases e0 : M fr = []
  · rw [e0] at HF
    have hf0 : decide (0 < ([] : List Bk).length) = false := by decide
    rw [hf0] at HF
    have HF := Lib.hid HF
    clear h HT
    go_enter Tryz.func13, Tryz.ntmps13
    go_wp2_with (go_at_call 47; refine HF.out.mono ?_; rintro e w' ⟨rfl, rfl⟩)
    go_ret
    exact ⟨rfl, rfl⟩
  · have hf1 : decide (0 < (M fr).length) = true := by simpa using List.length_pos_iff.2 e0
    rw [hf1] at HF
    have HF := Lib.hid HF
    by_cases e1 : tg ≤ fr
    · have d1 : decide (tg ≤ fr) = true := by simpa using e1
      clear h HT
      go_enter Tryz.func13, Tryz.ntmps13
      go_wp2_with (go_at_call 47; refine HF.out.mono ?_; rintro e w' ⟨rfl, rfl⟩)
      go_ret
      exact ⟨rfl, rfl⟩
    · have d1 : decide (tg ≤ fr) = false := by simpa using e1
      by_cases e2 : 8 < tg
      · have d2 : decide (8 < tg) = true := by simpa using e2
        clear h HT
        go_enter Tryz.func13, Tryz.ntmps13
        go_wp2_with (go_at_call 47; refine HF.out.mono ?_; rintro e w' ⟨rfl, rfl⟩)
        go_ret
        exact ⟨rfl, rfl⟩
      · have d2 : decide (8 < tg) = false := by simpa using e2
        have e3 : M tg ≠ [] := by
          rcases hno with h | h | h | h
          · exact absurd h e0
          · exact absurd h e1
          · exact absurd h e2
          · exact h
        have hf2 : decide (0 < (M tg).length) = true := by simpa using List.length_pos_iff.2 e3
        rw [hf2] at HT
        have HT := Lib.hid HT
        clear h
        go_enter Tryz.func13, Tryz.ntmps13
        go_wp2_with (first
          | (go_at_call 47; ((with_reducible refine HF.out.mono ?_)); rintro e w' ⟨rfl, rfl⟩)
          | (go_at_call 47; ((with_reducible refine HT.out.mono ?_)); rintro e w' ⟨rfl, rfl⟩))
        go_ret
        exact ⟨rfl, rfl⟩
def CV (w : World) (rb : Nat) (f : Nat → Value) : Prop := ∀ j, j < 18 → w.cell? ⟨rb, j, none⟩ = some (f j) ∧ w.frozen? ⟨rb, j, none⟩ = false
theorem CV.turn {w w' : World} {rb : Nat} {f : Nat → Value} (h : CV w rb f) (hb : Below w.heap.size w w') (hl : rb < w.heap.size) : CV w' rb f := fun j hj =>
  ⟨(hb.cell (p := ⟨rb, j, none⟩) hl).trans (h j hj).1, (hb.frozen (p := ⟨rb, j, none⟩) hl).trans (h j hj).2⟩
theorem CV.set {w : World} {rb : Nat} {f : Nat → Value} (h : CV w rb f) {i : Nat} (hi : i < 18) (v : Value) : CV (w.setCell ⟨rb, i, none⟩ v) rb (upd f i v) := fun j hj => by
  refine ⟨?_, (World.frozen?_setCell _ _ _ _).trans (h j hj).2⟩
  by_cases e : j = i
  · subst e
    rw [upd_same]
    exact World.cell?_setCell_same _ _ _ (h j hj).1
  · rw [upd_ne _ _ e]
    exact (World.cell?_setCell_other _ _ _ _ (by simp <;> omega)).trans (h j hj).1
set_option maxHeartbeats 4000000 in
set_option maxRecDepth 20000 in
theorem rgrow_yes (hst : Rt w base own s M) {fr tg : Int} (now : Int) (h0 : M fr ≠ []) (h1 : fr < tg) (h2 : tg ≤ 8) (h3 : M tg = []) {N Nf : Nat} {h hf : Nat → Nat} (K : Kit tg N h) (Kf : Kit fr Nf hf)
    (hl : (M fr).length = Nf) (hkeys : Keys ((M fr).map Bk.q).flatten) (hfew : ((M fr).map Bk.q).flatten.length ≤ 100000) :
    Calls Tryz.prog 13 #[s, .int .i64 fr, .int .i64 tg, .int .u64 now] w fun e w' => e = .returned (.bool true) ∧ ∃ own', Rt w' base own' s (grown M h N fr tg now) ∧ Turns (Mine own) w w' ∧ Fresh own own' w := by
  obtain ⟨rb, Q, T, V, H⟩ := hst
  obtain rfl := H.hs
  have HFR := rhas_any ⟨rb, Q, T, V, H⟩ fr
  have HTO := rhas_any ⟨rb, Q, T, V, H⟩ tg
  have hpos : 0 < (M fr).length := List.length_pos_iff.2 h0
  have hd0 : decide (0 < (M fr).length) = true := by simpa using hpos
  have hd1 : decide (0 < (M tg).length) = false := by rw [h3]; decide
  rw [hd0] at HFR
  rw [hd1] at HTO
  have HFR := Lib.hid HFR; have HTO := Lib.hid HTO
  have d1 : decide (tg ≤ fr) = false := by simpa using h1
  have d2 : decide (8 < tg) = false := by simpa using h2
  obtain ⟨fk, rfl, hf2, hf9⟩ := H.nat h0
  obtain ⟨tk, rfl⟩ := Int.eq_ofNat_of_zero_le (show 0 ≤ tg by omega)
  have hft : fk < tk := by omega
  have ht9 : tk < 9 := by omega
  have hf9i : (fk : Int) < 9 := by omega
  have ht9i : (tk : Int) < 9 := by omega
  obtain ⟨E, hE⟩ : ∃ E, E = ((M (fk : Int)).map Bk.q).flatten := ⟨_, rfl⟩
  have hrl := (H.fp rb _ H.os).2
  have hNf := Kf.few
  have hNN := K.few
  -- the cells
  have hcv : CV w.drew rb (fun j => if j < 9 then Q j else T (j - 9)) := fun j hj => by
    dsimp only
    by_cases hj9 : j < 9
    · rw [if_pos hj9]; exact H.hQ j hj9
    · rw [if_neg hj9]
      have := H.hT (j - 9) (by omega)
      rw [show 9 + (j - 9) = j by omega] at this
      exact this
  obtain ⟨Aq, cq, eq, hcq, hcq9⟩ := (H.hq fk hf9).shape
  have hc0 : w.drew.cell? ⟨rb, fk, none⟩ = some (.slice Aq Nf cq) := by
    have := (H.hQ fk hf9).1
    rw [eq, hl] at this
    exact this
  -- the calls
  have HRE : Hid (Calls Tryz.prog 48 #[.slice Aq Nf cq, .int .i64 (tk : Int)] w.drew fun e w' => ∃ s ss, e = .returned s ∧ Tab w' w.heap.size s ss (reh h N E) ∧ Below w.heap.size w.drew w') := by
    have hq : Qs w.drew w.heap.size Aq ((M (fk : Int)).map Bk.q) := by
      have hr := H.hq fk hf9
      rw [eq] at hr
      refine ⟨qflat (M (fk : Int)).length (V fk), by simp [qflat_len], hr.rd, fun i hi => ?_⟩
      rw [List.length_map] at hi
      have hqi := H.hv fk i hi
      obtain ⟨A', c', e, k1, k2⟩ := hqi.shape
      rw [map_at _ hi]
      refine ⟨A', c', by rw [qflat_at _ hi]; exact congrArg some e, k1, k2, ?_⟩
      rw [e] at hqi
      exact hqi.rd
    have := rrehash_any (c := cq) h K.rsize K.rhash K.few hq (Nat.le_refl _) (by rw [List.length_map]; exact hcq) hcq9 hkeys (by rw [List.length_map]; omega) hfew
    rw [List.length_map, hl, ← hE] at this
    exact Lib.hid this
  have HBG := Lib.hid (fun W => rbegins_any (w := W) K.rsize K.few now)
  have HRN := Lib.hid (fun W => rehash_nil (w := W) Kf)
  have HH := Lib.hid H; have HCV := Lib.hid hcv; have HL := Lib.hid hl
  clear H hcv eq hl hcq hcq9 hd0 hd1
  go_enter Tryz.func13, Tryz.ntmps13
  go_upto_region 3 with (first
    | (go_at_call 47; ((with_reducible refine HFR.out.mono ?_)); rintro e w' ⟨rfl, rfl⟩)
    | (go_at_call 47; ((with_reducible refine HTO.out.mono ?_)); rintro e w' ⟨rfl, rfl⟩))
  refine wp_region_held_drew (S := fun w' => w'.cell? ⟨rb, fk, none⟩ = some (.slice Aq Nf cq)) (by kernel_rfl) ?_ (fun hHeld => ?_)
  · exact hc0
  refine wpAnyH_take (i := 0) (oi := ({ dst := some 27, op := Op.move (Operand.tmp 0), type := 65, pos := "ref.go:87", after := #[], guard := none } : Oper)) (v := ?va0) rfl (by kernel_rfl) (by kernel_rfl) (by kernel_rfl) (fun _ _ _ h => h) (Or.inl ⟨by rfl, fun w hSw => ?hya0⟩) (by assumption) ?ra0
  case hya0 => (try dsimp only at hSw); go_simp; (try with_reducible rfl)
  (try simp only [Act.put, List.setIfInBounds_toArray, List.set_cons_zero, List.set_cons_succ])
  refine wpAnyH_take (i := 1) (oi := ({ dst := some 28, op := Op.move (Operand.tmp 2), type := 3, pos := "ref.go:87", after := #[], guard := none } : Oper)) (v := ?va1) rfl (by kernel_rfl) (by kernel_rfl) (by kernel_rfl) (fun _ _ _ h => h) (Or.inl ⟨by rfl, fun w hSw => ?hya1⟩) (by assumption) ?ra1
  case hya1 => (try dsimp only at hSw); go_simp; (try with_reducible rfl)
  (try simp only [Act.put, List.setIfInBounds_toArray, List.set_cons_zero, List.set_cons_succ])
  refine wpAnyH_take (i := 2) (oi := ({ dst := some 29, op := Op.move (Operand.tmp 0), type := 65, pos := "ref.go:87", after := #[], guard := none } : Oper)) (v := ?va2) rfl (by kernel_rfl) (by kernel_rfl) (by kernel_rfl) (fun _ _ _ h => h) (Or.inl ⟨by rfl, fun w hSw => ?hya2⟩) (by assumption) ?ra2
  case hya2 => (try dsimp only at hSw); go_simp; (try with_reducible rfl)
  (try simp only [Act.put, List.setIfInBounds_toArray, List.set_cons_zero, List.set_cons_succ])
  refine wpAnyH_take (i := 3) (oi := ({ dst := some 30, op := Op.move (Operand.tmp 1), type := 3, pos := "ref.go:87", after := #[], guard := none } : Oper)) (v := ?va3) rfl (by kernel_rfl) (by kernel_rfl) (by kernel_rfl) (fun _ _ _ h => h) (Or.inl ⟨by rfl, fun w hSw => ?hya3⟩) (by assumption) ?ra3
  case hya3 => (try dsimp only at hSw); go_simp; (try with_reducible rfl)
  (try simp only [Act.put, List.setIfInBounds_toArray, List.set_cons_zero, List.set_cons_succ])
  refine wpAnyH_take (i := 4) (oi := ({ dst := some 31, op := Op.nilCheck (Operand.tmp 29), type := 0, pos := "ref.go:87", after := #[{ on := 2, ground := Ground.data }], guard := none } : Oper)) (v := ?va4) rfl (by kernel_rfl) (by kernel_rfl) (by kernel_rfl) (fun _ _ _ h => h) (Or.inl ⟨by rfl, fun w hSw => ?hya4⟩) (by assumption) ?ra4
  case hya4 => (try dsimp only at hSw); go_simp; (try with_reducible rfl)
  (try simp only [Act.put, List.setIfInBounds_toArray, List.set_cons_zero, List.set_cons_succ])
  refine wpAnyH_take (i := 5) (oi := ({ dst := some 32, op := Op.fieldAddr 145 (Operand.tmp 31) 0, type := 0, pos := "ref.go:87", after := #[{ on := 4, ground := Ground.data }], guard := none } : Oper)) (v := ?va5) rfl (by kernel_rfl) (by kernel_rfl) (by kernel_rfl) (fun _ _ _ h => h) (Or.inl ⟨by rfl, fun w hSw => ?hya5⟩) (by assumption) ?ra5
  case hya5 => (try dsimp only at hSw); go_simp; (try with_reducible rfl)
  (try simp only [Act.put, List.setIfInBounds_toArray, List.set_cons_zero, List.set_cons_succ])
  refine wpAnyH_take (i := 6) (oi := ({ dst := some 33, op := Op.indexAddr 141 (Operand.tmp 32) (Operand.tmp 30), type := 0, pos := "ref.go:87", after := #[{ on := 5, ground := Ground.data }, { on := 3, ground := Ground.data }], guard := none } : Oper)) (v := ?va6) rfl (by kernel_rfl) (by kernel_rfl) (by kernel_rfl) (fun _ _ _ h => h) (Or.inl ⟨by rfl, fun w hSw => ?hya6⟩) (by assumption) ?ra6
  case hya6 => (try dsimp only at hSw); go_simp; (try with_reducible rfl)
  (try simp only [Act.put, List.setIfInBounds_toArray, List.set_cons_zero, List.set_cons_succ])
  refine wpAnyH_take (i := 7) (oi := ({ dst := some 34, op := Op.load 139 (Operand.tmp 33), type := 139, pos := "ref.go:87", after := #[{ on := 6, ground := Ground.data }], guard := none } : Oper)) (v := ?va7) rfl (by kernel_rfl) (by kernel_rfl) (by kernel_rfl) (fun _ _ _ h => h) (Or.inl ⟨by rfl, fun w hSw => ?hya7⟩) (by assumption) ?ra7
  case hya7 => (try dsimp only at hSw); go_simp; (try with_reducible rfl)
  (try simp only [Act.put, List.setIfInBounds_toArray, List.set_cons_zero, List.set_cons_succ])
  refine wpAnyH_take (i := 8) (oi := ({ dst := some 35, op := Op.move (Operand.tmp 2), type := 3, pos := "ref.go:87", after := #[], guard := none } : Oper)) (v := ?va8) rfl (by kernel_rfl) (by kernel_rfl) (by kernel_rfl) (fun _ _ _ h => h) (Or.inl ⟨by rfl, fun w hSw => ?hya8⟩) (by assumption) ?ra8
  case hya8 => (try dsimp only at hSw); go_simp; (try with_reducible rfl)
  (try simp only [Act.put, List.setIfInBounds_toArray, List.set_cons_zero, List.set_cons_succ])
  refine wpAnyH_take (i := 10) (oi := ({ dst := some 37, op := Op.nilCheck (Operand.tmp 27), type := 0, pos := "ref.go:87", after := #[{ on := 0, ground := Ground.data }], guard := none } : Oper)) (v := ?va10) rfl (by kernel_rfl) (by kernel_rfl) (by kernel_rfl) (fun _ _ _ h => h) (Or.inl ⟨by rfl, fun w hSw => ?hya10⟩) (by assumption) ?ra10
  case hya10 => (try dsimp only at hSw); go_simp; (try with_reducible rfl)
  (try simp only [Act.put, List.setIfInBounds_toArray, List.set_cons_zero, List.set_cons_succ])
  refine wpAnyH_take (i := 11) (oi := ({ dst := some 38, op := Op.fieldAddr 145 (Operand.tmp 37) 0, type := 0, pos := "ref.go:87", after := #[{ on := 10, ground := Ground.data }], guard := none } : Oper)) (v := ?va11) rfl (by kernel_rfl) (by kernel_rfl) (by kernel_rfl) (fun _ _ _ h => h) (Or.inl ⟨by rfl, fun w hSw => ?hya11⟩) (by assumption) ?ra11
  case hya11 => (try dsimp only at hSw); go_simp; (try with_reducible rfl)
  (try simp only [Act.put, List.setIfInBounds_toArray, List.set_cons_zero, List.set_cons_succ])
  refine wpAnyH_ready (rs := [9]) (by kernel_rfl) (by simp) ?_
  refine AllReadyH.cons (o := ({ dst := some 36, op := Op.call { callee := Callee.value (Operand.func 48), args := #[Operand.tmp 34, Operand.tmp 35], argTypes := #[139, 3] }, type := 139, pos := "ref.go:87", after := #[{ on := 7, ground := Ground.data }, { on := 8, ground := Ground.data }], guard := none } : Oper)) rfl (fun Kq hKq => ?_) AllReadyH.nil
  go_simp
  (refine HRE.out.mono ?_; rintro e w1 ⟨s1, ss1, rfl, ht1, hb1⟩; obtain ⟨A1, c1, hse, hc1, hc19⟩ := ht1.shape; rw [reh_len] at hse hc1; subst hse; have HT1 := Lib.hid ht1; have HB1 := Lib.hid hb1; have HCV1 := Lib.hid (HCV.out.turn hb1 hrl); clear ht1)
  refine hKq.out _ _ ?_ (fun hHeld => ?_)
  · exact (hb1.cell (p := ⟨rb, fk, none⟩) hrl).trans hHeld
  clear hKq Kq
  (try simp only [Act.put, List.setIfInBounds_toArray, List.set_cons_zero, List.set_cons_succ])
  refine wpAnyH_take (i := 12) (oi := ({ dst := some 39, op := Op.indexAddr 141 (Operand.tmp 38) (Operand.tmp 28), type := 0, pos := "ref.go:87", after := #[{ on := 11, ground := Ground.data }, { on := 1, ground := Ground.data }, { on := 0, ground := Ground.phase }, { on := 1, ground := Ground.phase }, { on := 2, ground := Ground.phase }, { on := 3, ground := Ground.phase }, { on := 4, ground := Ground.phase }, { on := 5, ground := Ground.phase }, { on := 6, ground := Ground.phase }, { on := 7, ground := Ground.phase }, { on := 8, ground := Ground.phase }, { on := 9, ground := Ground.phase }], guard := none } : Oper)) (v := ?va12) rfl (by kernel_rfl) (by kernel_rfl) (by kernel_rfl) (fun _ _ _ h => h) (Or.inl ⟨by rfl, fun w hSw => ?hya12⟩) (by assumption) ?ra12
  case hya12 => (try dsimp only at hSw); go_simp; (try with_reducible rfl)
  (try simp only [Act.put, List.setIfInBounds_toArray, List.set_cons_zero, List.set_cons_succ])
  refine wpAnyH_ready (rs := [13]) (by kernel_rfl) (by simp) ?_
  refine AllReadyH.cons (o := ({ dst := none, op := Op.store 139 (Operand.tmp 39) (Operand.tmp 36), type := 0, pos := "ref.go:87", after := #[{ on := 12, ground := Ground.data }, { on := 9, ground := Ground.data }, { on := 9, ground := Ground.chain }, { on := 0, ground := Ground.phase }, { on := 1, ground := Ground.phase }, { on := 2, ground := Ground.phase }, { on := 3, ground := Ground.phase }, { on := 4, ground := Ground.phase }, { on := 5, ground := Ground.phase }, { on := 6, ground := Ground.phase }, { on := 7, ground := Ground.phase }, { on := 8, ground := Ground.phase }, { on := 9, ground := Ground.phase }], guard := none } : Oper)) rfl (fun Kq hKq => ?_) AllReadyH.nil
  have hrl1 : rb < w1.heap.size := Nat.lt_of_lt_of_le hrl hb1.size; obtain ⟨k1, f1⟩ := HCV1.out tk (by omega); clear hb1; go_simp
  refine hKq.out _ _ ?_ (fun hHeld => ?_)
  · exact (World.cell?_setCell_other _ _ _ _ (by simp <;> omega)).trans hHeld
  clear hKq Kq
  (try simp only [Act.put, List.setIfInBounds_toArray, List.set_cons_zero, List.set_cons_succ])
  refine wpAnyH_done (by kernel_rfl) ?_ _
  have CV2 := Lib.hid (HCV1.out.set (i := tk) (by omega) (.slice A1 N c1))
  have ta : Turns (fun x => x = rb) w1 (w1.setCell ⟨rb, tk, none⟩ (.slice A1 N c1)) := (Turns.refl (fun x => x = rb) w1).setCell ⟨rb, tk, none⟩ _ rfl
  have hrl2 : rb < (w1.setCell ⟨rb, tk, none⟩ (.slice A1 N c1)).heap.size := Nat.lt_of_lt_of_le hrl1 ta.size
  have hsa : (w1.setCell ⟨rb, tk, none⟩ (.slice A1 N c1)).heap.size = w1.heap.size := by simp [World.setCell]
  generalize w1.setCell ⟨rb, tk, none⟩ (.slice A1 N c1) = w2 at *
  have TA := Lib.hid ta; have HSA := Lib.hid hsa
  clear ta k1 f1 hc0 hsa
  go_upto_region 4 with (fail)
  refine wp_region_held_drew (S := fun _ => True) (by kernel_rfl) ?_ (fun hHeld => ?_)
  · trivial
  refine wpAnyH_take (i := 0) (oi := ({ dst := some 40, op := Op.move (Operand.tmp 0), type := 65, pos := "ref.go:88", after := #[], guard := none } : Oper)) (v := ?vb0) rfl (by kernel_rfl) (by kernel_rfl) (by kernel_rfl) (fun _ _ _ h => h) (Or.inl ⟨by rfl, fun w hSw => ?hyb0⟩) (by assumption) ?rb0
  case hyb0 => (try dsimp only at hSw); go_simp; (try with_reducible rfl)
  (try simp only [Act.put, List.setIfInBounds_toArray, List.set_cons_zero, List.set_cons_succ])
  refine wpAnyH_take (i := 1) (oi := ({ dst := some 41, op := Op.move (Operand.tmp 2), type := 3, pos := "ref.go:88", after := #[], guard := none } : Oper)) (v := ?vb1) rfl (by kernel_rfl) (by kernel_rfl) (by kernel_rfl) (fun _ _ _ h => h) (Or.inl ⟨by rfl, fun w hSw => ?hyb1⟩) (by assumption) ?rb1
  case hyb1 => (try dsimp only at hSw); go_simp; (try with_reducible rfl)
  (try simp only [Act.put, List.setIfInBounds_toArray, List.set_cons_zero, List.set_cons_succ])
  refine wpAnyH_take (i := 2) (oi := ({ dst := some 42, op := Op.move (Operand.tmp 2), type := 3, pos := "ref.go:88", after := #[], guard := none } : Oper)) (v := ?vb2) rfl (by kernel_rfl) (by kernel_rfl) (by kernel_rfl) (fun _ _ _ h => h) (Or.inl ⟨by rfl, fun w hSw => ?hyb2⟩) (by assumption) ?rb2
  case hyb2 => (try dsimp only at hSw); go_simp; (try with_reducible rfl)
  (try simp only [Act.put, List.setIfInBounds_toArray, List.set_cons_zero, List.set_cons_succ])
  refine wpAnyH_take (i := 3) (oi := ({ dst := some 43, op := Op.move (Operand.tmp 3), type := 27, pos := "ref.go:88", after := #[], guard := none } : Oper)) (v := ?vb3) rfl (by kernel_rfl) (by kernel_rfl) (by kernel_rfl) (fun _ _ _ h => h) (Or.inl ⟨by rfl, fun w hSw => ?hyb3⟩) (by assumption) ?rb3
  case hyb3 => (try dsimp only at hSw); go_simp; (try with_reducible rfl)
  (try simp only [Act.put, List.setIfInBounds_toArray, List.set_cons_zero, List.set_cons_succ])
  refine wpAnyH_take (i := 5) (oi := ({ dst := some 45, op := Op.nilCheck (Operand.tmp 40), type := 0, pos := "ref.go:88", after := #[{ on := 0, ground := Ground.data }], guard := none } : Oper)) (v := ?vb5) rfl (by kernel_rfl) (by kernel_rfl) (by kernel_rfl) (fun _ _ _ h => h) (Or.inl ⟨by rfl, fun w hSw => ?hyb5⟩) (by assumption) ?rb5
  case hyb5 => (try dsimp only at hSw); go_simp; (try with_reducible rfl)
  (try simp only [Act.put, List.setIfInBounds_toArray, List.set_cons_zero, List.set_cons_succ])
  refine wpAnyH_take (i := 6) (oi := ({ dst := some 46, op := Op.fieldAddr 145 (Operand.tmp 45) 1, type := 0, pos := "ref.go:88", after := #[{ on := 5, ground := Ground.data }], guard := none } : Oper)) (v := ?vb6) rfl (by kernel_rfl) (by kernel_rfl) (by kernel_rfl) (fun _ _ _ h => h) (Or.inl ⟨by rfl, fun w hSw => ?hyb6⟩) (by assumption) ?rb6
  case hyb6 => (try dsimp only at hSw); go_simp; (try with_reducible rfl)
  (try simp only [Act.put, List.setIfInBounds_toArray, List.set_cons_zero, List.set_cons_succ])
  refine wpAnyH_ready (rs := [4]) (by kernel_rfl) (by simp) ?_
  refine AllReadyH.cons (o := ({ dst := some 44, op := Op.call { callee := Callee.value (Operand.func 49), args := #[Operand.tmp 42, Operand.tmp 43], argTypes := #[3, 27] }, type := 142, pos := "ref.go:88", after := #[{ on := 2, ground := Ground.data }, { on := 3, ground := Ground.data }], guard := none } : Oper)) rfl (fun Kq hKq => ?_) AllReadyH.nil
  go_simp
  (refine (HBG.out _).mono ?_; rintro e w3 ⟨s2, rfl, hr2, hb3⟩; obtain ⟨A2, c2, rfl, hc2, hc29⟩ := hr2.shape; have HR2 := Lib.hid hr2; have HB3 := Lib.hid hb3; have HCV3 : Hid (CV w3 rb _) := Lib.hid (CV.turn (w := w2.drew) CV2.out hb3 hrl2); have hrl3 : rb < w3.heap.size := Nat.lt_of_lt_of_le hrl2 hb3.size; clear hr2 hb3)
  refine hKq.out _ _ ?_ (fun hHeld => ?_)
  · trivial
  clear hKq Kq
  (try simp only [Act.put, List.setIfInBounds_toArray, List.set_cons_zero, List.set_cons_succ])
  refine wpAnyH_take (i := 7) (oi := ({ dst := some 47, op := Op.indexAddr 143 (Operand.tmp 46) (Operand.tmp 41), type := 0, pos := "ref.go:88", after := #[{ on := 6, ground := Ground.data }, { on := 1, ground := Ground.data }, { on := 0, ground := Ground.phase }, { on := 1, ground := Ground.phase }, { on := 2, ground := Ground.phase }, { on := 3, ground := Ground.phase }, { on := 4, ground := Ground.phase }], guard := none } : Oper)) (v := ?vb7) rfl (by kernel_rfl) (by kernel_rfl) (by kernel_rfl) (fun _ _ _ h => h) (Or.inl ⟨by rfl, fun w hSw => ?hyb7⟩) (by assumption) ?rb7
  case hyb7 => (try dsimp only at hSw); go_simp; (try with_reducible rfl)
  (try simp only [Act.put, List.setIfInBounds_toArray, List.set_cons_zero, List.set_cons_succ])
  refine wpAnyH_ready (rs := [8]) (by kernel_rfl) (by simp) ?_
  refine AllReadyH.cons (o := ({ dst := none, op := Op.store 142 (Operand.tmp 47) (Operand.tmp 44), type := 0, pos := "ref.go:88", after := #[{ on := 7, ground := Ground.data }, { on := 4, ground := Ground.data }, { on := 4, ground := Ground.chain }, { on := 0, ground := Ground.phase }, { on := 1, ground := Ground.phase }, { on := 2, ground := Ground.phase }, { on := 3, ground := Ground.phase }, { on := 4, ground := Ground.phase }], guard := none } : Oper)) rfl (fun Kq hKq => ?_) AllReadyH.nil
  obtain ⟨k3, f3⟩ := HCV3.out (9 + tk) (by omega); go_simp
  refine hKq.out _ _ ?_ (fun hHeld => ?_)
  · trivial
  clear hKq Kq
  (try simp only [Act.put, List.setIfInBounds_toArray, List.set_cons_zero, List.set_cons_succ])
  refine wpAnyH_done (by kernel_rfl) ?_ _
  have CV4 := Lib.hid (HCV3.out.set (i := 9 + tk) (by omega) (.slice A2 N c2))
  have tb : Turns (fun x => x = rb) w3 (w3.setCell ⟨rb, 9 + tk, none⟩ (.slice A2 N c2)) := (Turns.refl (fun x => x = rb) w3).setCell ⟨rb, 9 + tk, none⟩ _ rfl
  have hrl4 : rb < (w3.setCell ⟨rb, 9 + tk, none⟩ (.slice A2 N c2)).heap.size := Nat.lt_of_lt_of_le hrl3 tb.size
  have hsb : (w3.setCell ⟨rb, 9 + tk, none⟩ (.slice A2 N c2)).heap.size = w3.heap.size := by simp [World.setCell]
  generalize w3.setCell ⟨rb, 9 + tk, none⟩ (.slice A2 N c2) = w4 at *
  have TB := Lib.hid tb; have HSB := Lib.hid hsb
  clear tb k3 f3 hsb
  go_upto_region 5 with (fail)
  refine wp_region_held_drew (S := fun _ => True) (by kernel_rfl) ?_ (fun hHeld => ?_)
  · trivial
  refine wpAnyH_take (i := 0) (oi := ({ dst := some 48, op := Op.move (Operand.tmp 0), type := 65, pos := "ref.go:89", after := #[], guard := none } : Oper)) (v := ?vc0) rfl (by kernel_rfl) (by kernel_rfl) (by kernel_rfl) (fun _ _ _ h => h) (Or.inl ⟨by rfl, fun w hSw => ?hyc0⟩) (by assumption) ?rc0
  case hyc0 => (try dsimp only at hSw); go_simp; (try with_reducible rfl)
  (try simp only [Act.put, List.setIfInBounds_toArray, List.set_cons_zero, List.set_cons_succ])
  refine wpAnyH_take (i := 1) (oi := ({ dst := some 49, op := Op.move (Operand.tmp 1), type := 3, pos := "ref.go:89", after := #[], guard := none } : Oper)) (v := ?vc1) rfl (by kernel_rfl) (by kernel_rfl) (by kernel_rfl) (fun _ _ _ h => h) (Or.inl ⟨by rfl, fun w hSw => ?hyc1⟩) (by assumption) ?rc1
  case hyc1 => (try dsimp only at hSw); go_simp; (try with_reducible rfl)
  (try simp only [Act.put, List.setIfInBounds_toArray, List.set_cons_zero, List.set_cons_succ])
  refine wpAnyH_take (i := 2) (oi := ({ dst := some 50, op := Op.move (Operand.tmp 1), type := 3, pos := "ref.go:89", after := #[], guard := none } : Oper)) (v := ?vc2) rfl (by kernel_rfl) (by kernel_rfl) (by kernel_rfl) (fun _ _ _ h => h) (Or.inl ⟨by rfl, fun w hSw => ?hyc2⟩) (by assumption) ?rc2
  case hyc2 => (try dsimp only at hSw); go_simp; (try with_reducible rfl)
  (try simp only [Act.put, List.setIfInBounds_toArray, List.set_cons_zero, List.set_cons_succ])
  refine wpAnyH_take (i := 4) (oi := ({ dst := some 52, op := Op.nilCheck (Operand.tmp 48), type := 0, pos := "ref.go:89", after := #[{ on := 0, ground := Ground.data }], guard := none } : Oper)) (v := ?vc4) rfl (by kernel_rfl) (by kernel_rfl) (by kernel_rfl) (fun _ _ _ h => h) (Or.inl ⟨by rfl, fun w hSw => ?hyc4⟩) (by assumption) ?rc4
  case hyc4 => (try dsimp only at hSw); go_simp; (try with_reducible rfl)
  (try simp only [Act.put, List.setIfInBounds_toArray, List.set_cons_zero, List.set_cons_succ])
  refine wpAnyH_take (i := 5) (oi := ({ dst := some 53, op := Op.fieldAddr 145 (Operand.tmp 52) 0, type := 0, pos := "ref.go:89", after := #[{ on := 4, ground := Ground.data }], guard := none } : Oper)) (v := ?vc5) rfl (by kernel_rfl) (by kernel_rfl) (by kernel_rfl) (fun _ _ _ h => h) (Or.inl ⟨by rfl, fun w hSw => ?hyc5⟩) (by assumption) ?rc5
  case hyc5 => (try dsimp only at hSw); go_simp; (try with_reducible rfl)
  (try simp only [Act.put, List.setIfInBounds_toArray, List.set_cons_zero, List.set_cons_succ])
  refine wpAnyH_ready (rs := [3]) (by kernel_rfl) (by simp) ?_
  refine AllReadyH.cons (o := ({ dst := some 51, op := Op.call { callee := Callee.value (Operand.func 48), args := #[Operand.const (Value.slice none 0 0), Operand.tmp 50], argTypes := #[139, 3] }, type := 139, pos := "ref.go:89", after := #[{ on := 2, ground := Ground.data }], guard := none } : Oper)) rfl (fun Kq hKq => ?_) AllReadyH.nil
  go_simp
  (refine (HRN.out _).mono ?_; rintro e w5 ⟨s3, ss3, rfl, ht3, hb5⟩; obtain ⟨A3, c3, hse, hc3, hc39⟩ := ht3.shape; rw [List.length_replicate] at hse hc3; subst hse; have HT3 := Lib.hid ht3; have HB5 := Lib.hid hb5; have HCV5 : Hid (CV w5 rb _) := Lib.hid (CV.turn (w := w4.drew) CV4.out hb5 hrl4); clear ht3 hb5)
  refine hKq.out _ _ ?_ (fun hHeld => ?_)
  · trivial
  clear hKq Kq
  (try simp only [Act.put, List.setIfInBounds_toArray, List.set_cons_zero, List.set_cons_succ])
  refine wpAnyH_take (i := 6) (oi := ({ dst := some 54, op := Op.indexAddr 141 (Operand.tmp 53) (Operand.tmp 49), type := 0, pos := "ref.go:89", after := #[{ on := 5, ground := Ground.data }, { on := 1, ground := Ground.data }, { on := 0, ground := Ground.phase }, { on := 1, ground := Ground.phase }, { on := 2, ground := Ground.phase }, { on := 3, ground := Ground.phase }], guard := none } : Oper)) (v := ?vc6) rfl (by kernel_rfl) (by kernel_rfl) (by kernel_rfl) (fun _ _ _ h => h) (Or.inl ⟨by rfl, fun w hSw => ?hyc6⟩) (by assumption) ?rc6
  case hyc6 => (try dsimp only at hSw); go_simp; (try with_reducible rfl)
  (try simp only [Act.put, List.setIfInBounds_toArray, List.set_cons_zero, List.set_cons_succ])
  refine wpAnyH_ready (rs := [7]) (by kernel_rfl) (by simp) ?_
  refine AllReadyH.cons (o := ({ dst := none, op := Op.store 139 (Operand.tmp 54) (Operand.tmp 51), type := 0, pos := "ref.go:89", after := #[{ on := 6, ground := Ground.data }, { on := 3, ground := Ground.data }, { on := 3, ground := Ground.chain }, { on := 0, ground := Ground.phase }, { on := 1, ground := Ground.phase }, { on := 2, ground := Ground.phase }, { on := 3, ground := Ground.phase }], guard := none } : Oper)) rfl (fun Kq hKq => ?_) AllReadyH.nil
  obtain ⟨k5, f5⟩ := HCV5.out fk (by omega); go_simp
  refine hKq.out _ _ ?_ (fun hHeld => ?_)
  · trivial
  clear hKq Kq
  (try simp only [Act.put, List.setIfInBounds_toArray, List.set_cons_zero, List.set_cons_succ])
  refine wpAnyH_done (by kernel_rfl) ?_ _
  have CV6 := Lib.hid (HCV5.out.set (i := fk) (by omega) (.slice A3 Nf c3))
  have tc : Turns (fun x => x = rb) w5 (w5.setCell ⟨rb, fk, none⟩ (.slice A3 Nf c3)) := (Turns.refl (fun x => x = rb) w5).setCell ⟨rb, fk, none⟩ _ rfl
  have hsc : (w5.setCell ⟨rb, fk, none⟩ (.slice A3 Nf c3)).heap.size = w5.heap.size := by simp [World.setCell]
  generalize w5.setCell ⟨rb, fk, none⟩ (.slice A3 Nf c3) = w6 at *
  have TC := Lib.hid tc; have HSC := Lib.hid hsc
  clear tc k5 f5 hsc
  go_wp2_with fail
  go_ret
  refine ⟨rfl, ?_⟩
  have H := HH.out
  have hl := HL.out
  have htab := HT1.out
  have htab3 := HT3.out
  have hd4 : w4.drew.heap.size = w4.heap.size := rfl
  have s1 : w.heap.size ≤ w1.heap.size := HB1.out.size
  have s2 : w2.heap.size = w1.heap.size := HSA.out
  have s3 : w2.heap.size ≤ w3.heap.size := HB3.out.size
  have s4 : w4.heap.size = w3.heap.size := HSB.out
  have s5 : w4.heap.size ≤ w5.heap.size := HB5.out.size
  have s6 : w6.heap.size = w5.heap.size := HSC.out
  have t56 := TC.out
  have t46 : Turns (fun x => x = rb) w4 w6 := ((Turns.refl (fun x => x = rb) w4).drew.trans (Turns.of_below (S := fun x => x = rb) HB5.out) (fun _ _ e => e)).trans t56 (fun _ _ e => e)
  have t36 := TB.out.trans t46 (fun _ _ e => e)
  have t26 : Turns (fun x => x = rb) w2 w6 := ((Turns.refl (fun x => x = rb) w2).drew.trans (Turns.of_below (S := fun x => x = rb) HB3.out) (fun _ _ e => e)).trans t36 (fun _ _ e => e)
  have t16 := TA.out.trans t26 (fun _ _ e => e)
  have t06 : Turns (fun x => x = rb) w w6 := ((Turns.refl (fun x => x = rb) w).drew.trans (Turns.of_below (S := fun x => x = rb) HB1.out) (fun _ _ e => e)).trans t16 (fun _ _ e => e)
  have l1 : ∀ x r, NewT (.slice A1 N c1) ss1 (tk : Int) x r → w.heap.size ≤ x ∧ x < w1.heap.size := fun x r e => NewT.lt htab e
  have l2 : ∀ x, (Value.slice A2 N c2).ownBlock = some x → w2.heap.size ≤ x ∧ x < w3.heap.size := fun x e => HR2.out.lt x e
  have l3 : ∀ x r, NewT (.slice A3 Nf c3) ss3 (fk : Int) x r → w4.heap.size ≤ x ∧ x < w5.heap.size := fun x r e => NewT.lt htab3 e
  obtain ⟨own', o1, o2, o3⟩ := own_new own (fun x r => NewT (.slice A1 N c1) ss1 (tk : Int) x r ∨ ((Value.slice A2 N c2).ownBlock = some x ∧ r = .tim (tk : Int)) ∨ NewT (.slice A3 Nf c3) ss3 (fk : Int) x r) (fun x => own x = some (.tab (fk : Int)) ∨ ∃ i, own x = some (.q (fk : Int) i)) w.heap.size (fun x r r' e e' => by
    rcases e with h1 | ⟨h1, rfl⟩ | h1
    · rcases e' with h2 | ⟨h2, rfl⟩ | h2
      · exact NewT.fun htab h1 h2
      · have := l1 x _ h1; have := l2 x h2; omega
      · have := l1 x _ h1; have := l3 x _ h2; omega
    · rcases e' with h2 | ⟨h2, rfl⟩ | h2
      · have := l1 x _ h2; have := l2 x h1; omega
      · rfl
      · have := l3 x _ h2; have := l2 x h1; omega
    · rcases e' with h2 | ⟨h2, rfl⟩ | h2
      · have := l1 x _ h2; have := l3 x _ h1; omega
      · have := l2 x h2; have := l3 x _ h1; omega
      · exact NewT.fun htab3 h1 h2) (fun x r e => by
    rcases e with h1 | ⟨h1, rfl⟩ | h1
    · exact (l1 x _ h1).1
    · have := l2 x h1; omega
    · have := l3 x _ h1; omega) (fun x r e => (H.fp x r e).2)
  have hkeep : ∀ x r, own x = some r → r ≠ .tab (fk : Int) → (∀ i, r ≠ .q (fk : Int) i) → own' x = some r := fun x r e hr hr2 => o2 x r e (fun hd => by
    rcases hd with hd | ⟨i, hd⟩
    · exact hr (by rw [e] at hd; simpa using hd)
    · exact hr2 i (by rw [e] at hd; simpa using hd))
  have hMt : grown M h N (fk : Int) (tk : Int) now (tk : Int) = fresh now (reh h N E) := by unfold grown; rw [upd_same, hE]
  have hMf : grown M h N (fk : Int) (tk : Int) now (fk : Int) = hollow (M (fk : Int)) := by unfold grown; rw [upd_ne _ _ (by omega), upd_same]
  have hMo : ∀ b : Int, b ≠ tk → b ≠ fk → grown M h N (fk : Int) (tk : Int) now b = M b := fun b e1 e2 => by unfold grown; rw [upd_ne _ _ e1, upd_ne _ _ e2]
  refine ⟨own', ⟨rb, upd (upd Q tk (.slice A1 N c1)) fk (.slice A3 Nf c3), upd T tk (.slice A2 N c2), upd (upd V tk (fun i => (ss1[i]?).getD nilS)) fk (fun i => (ss3[i]?).getD nilS), ?_⟩, t06.mono (fun x _ e => by subst e; exact ⟨_, H.os⟩), fun x r e => by
    rcases o3 x r e with h' | h1 | ⟨h1, rfl⟩ | h1
    · exact .inl ⟨r, h'⟩
    · exact .inr (l1 x _ h1).1
    · have := l2 x h1; exact .inr (by omega)
    · have := l3 x _ h1; exact .inr (by omega)⟩
  have hbase := (H.fp rb _ H.os).1
  refine ⟨fun x r e => ?_, rfl, hkeep rb _ H.os (by simp) (by simp), fun j hj => ?_, fun j hj => ?_, fun b hb => ?_, fun j hj => ?_, fun j hj => ?_, fun j i hi => ?_, fun j x hj e => ?_, fun j x hj e => ?_, fun j i x hi e => ?_⟩
  · rcases o3 x r e with h' | h1 | ⟨h1, rfl⟩ | h1
    · have := H.fp x r h'; omega
    · have := l1 x _ h1; omega
    · have := l2 x h1; omega
    · have := l3 x _ h1; omega
  · refine ⟨(CV6.out j (by omega)).1.trans (congrArg some ?_), (CV6.out j (by omega)).2⟩
    by_cases e1 : j = fk
    · subst e1; rw [upd_same, upd_same]
    · rw [upd_ne _ _ e1, upd_ne _ _ e1, upd_ne _ _ (by omega)]
      by_cases e2 : j = tk
      · subst e2; rw [upd_same, upd_same]
      · rw [upd_ne _ _ e2, upd_ne _ _ e2, if_pos hj]
  · refine ⟨(CV6.out (9 + j) (by omega)).1.trans (congrArg some ?_), (CV6.out (9 + j) (by omega)).2⟩
    rw [upd_ne _ _ (show 9 + j ≠ fk by omega)]
    by_cases e2 : j = tk
    · subst e2; rw [upd_same, upd_same]
    · rw [upd_ne _ _ (show 9 + j ≠ 9 + tk by omega), upd_ne _ _ (show 9 + j ≠ tk by omega), upd_ne _ _ e2, if_neg (by omega), show 9 + j - 9 = j by omega]
  · rw [hMo b (by omega) (by omega)]
    exact H.no b hb
  · by_cases e1 : j = fk
    · subst e1
      rw [upd_same, upd_same, hMf, hollow_len, hl]
      have := tab_qflat htab3
      rw [List.length_replicate] at this
      exact (this.keep t56 (fun x e e2 => by have := htab3.row.lt x e; omega)).base (Nat.zero_le _)
    · rw [upd_ne _ _ e1, upd_ne _ _ e1]
      by_cases e2 : j = tk
      · subst e2
        rw [upd_same, upd_same, hMt, fresh_len, reh_len]
        have := tab_qflat htab
        rw [reh_len] at this
        exact (this.keep t16 (fun x e e2 => by have := htab.row.lt x e; omega)).base (Nat.zero_le _)
      · rw [upd_ne _ _ e2, upd_ne _ _ e2, hMo _ (by omega) (by omega)]
        exact (H.hq j hj).keep t06 (fun x e e3 => H.ne (H.oq j x hj e) H.os (by simp) e3)
  · by_cases e2 : j = tk
    · subst e2
      rw [upd_same, hMt, fresh_len, tflat_fresh, reh_len]
      exact (HR2.out.keep t36 (fun x e e2 => by have := l2 x e; omega)).base (Nat.zero_le _)
    · rw [upd_ne _ _ e2]
      by_cases e1 : j = fk
      · subst e1
        rw [hMf, hollow_len, tflat_hollow]
        exact (H.ht j hj).keep t06 (fun x e e3 => H.ne (H.ot j x hj e) H.os (by simp) e3)
      · rw [hMo _ (by omega) (by omega)]
        exact (H.ht j hj).keep t06 (fun x e e3 => H.ne (H.ot j x hj e) H.os (by simp) e3)
  · by_cases e1 : j = fk
    · subst e1
      rw [hMf, hollow_len] at hi
      rw [upd_same, hMf, hollow_at _ hi]
      obtain ⟨v, hv, hr, _⟩ := htab3.qs i (by rw [List.length_replicate]; omega)
      rw [rep_at] at hr
      rw [hv]
      exact (hr.keep t56 (fun x e e2 => by have := htab3.lt hv e; omega)).base (Nat.zero_le _)
    · rw [upd_ne _ _ e1]
      by_cases e2 : j = tk
      · subst e2
        rw [hMt, fresh_len] at hi
        rw [upd_same, hMt, fresh_at _ _ hi]
        obtain ⟨v, hv, hr, _⟩ := htab.qs i hi
        rw [hv]
        exact (hr.keep t16 (fun x e e2 => by have := htab.lt hv e; omega)).base (Nat.zero_le _)
      · rw [hMo _ (by omega) (by omega)] at hi ⊢
        rw [upd_ne _ _ e2]
        exact (H.hv j i hi).keep t06 (fun x e e3 => H.ne (H.ov j i x hi e) H.os (by simp) e3)
  · by_cases e1 : j = fk
    · subst e1
      rw [upd_same] at e
      exact o1 _ _ (.inr (.inr (.inl ⟨e, rfl⟩)))
    · rw [upd_ne _ _ e1] at e
      by_cases e2 : j = tk
      · subst e2
        rw [upd_same] at e
        exact o1 _ _ (.inl (.inl ⟨e, rfl⟩))
      · rw [upd_ne _ _ e2] at e
        exact hkeep x _ (H.oq j x hj e) (by simp; omega) (by simp)
  · by_cases e2 : j = tk
    · subst e2
      rw [upd_same] at e
      exact o1 _ _ (.inr (.inl ⟨e, rfl⟩))
    · rw [upd_ne _ _ e2] at e
      exact hkeep x _ (H.ot j x hj e) (by simp) (by simp)
  · by_cases e1 : j = fk
    · subst e1
      rw [hMf, hollow_len] at hi
      rw [upd_same] at e
      obtain ⟨v, hv, hr, _⟩ := htab3.qs i (by rw [List.length_replicate]; omega)
      rw [hv] at e
      exact o1 _ _ (.inr (.inr (.inr ⟨i, v, hv, e, rfl⟩)))
    · rw [upd_ne _ _ e1] at e
      by_cases e2 : j = tk
      · subst e2
        rw [hMt, fresh_len] at hi
        rw [upd_same] at e
        obtain ⟨v, hv, hr, _⟩ := htab.qs i hi
        rw [hv] at e
        exact o1 _ _ (.inl (.inr ⟨i, v, hv, e, rfl⟩))
      · rw [hMo _ (by omega) (by omega)] at hi
        rw [upd_ne _ _ e2] at e
        exact hkeep x _ (H.ov j i x hi e) (by simp) (by simp; omega)
end
end Go.Proofs.YtdodloannlfnlaaGreat.S10
namespace Go.Proofs.YtdodloannlfnlaaGreat.S10
open Go.Proofs.YtdodloannlfnlaaGreat
open Go.RowKit

end Go.Proofs.YtdodloannlfnlaaGreat.S10
namespace Go.Proofs.YtdodloannlfnlaaGreat.S10
open Go.Proofs.YtdodloannlfnlaaGreat
open Go.RowKit

theorem otherP_any (b i : Int) (w : World) : Calls Tryz.prog 16 #[.agg #[.int .i64 b, .int .i64 i]] w fun e w' => e = .returned (.agg #[.int .i64 b, .int .i64 i]) ∧ Below w.heap.size w w' := by
  go_enter Tryz.func16, Tryz.ntmps16
  go_wp2
  exact bodyPost_ret (v := .agg #[.int .i64 b, .int .i64 i]) (by simp [results, Tryz.results16, go_sem]) rfl ⟨rfl, by first | exact ((Below.refl _ w).alloc (Nat.le_refl _) _).alloc (by simp) _ | exact below1 w _⟩
theorem otherT_any (a f : Int) (w : World) : Calls Tryz.prog 72 #[.agg #[.int .u64 a, .int .u64 f]] w fun e w' => e = .returned (.agg #[.int .u64 a, .int .u64 f]) ∧ Below w.heap.size w w' := by
  go_enter Tryz.func72, Tryz.ntmps72
  go_wp2
  exact bodyPost_ret (v := .agg #[.int .u64 a, .int .u64 f]) (by simp [results, Tryz.results72, go_sem]) rfl ⟨rfl, by first | exact ((Below.refl _ w).alloc (Nat.le_refl _) _).alloc (by simp) _ | exact below1 w _⟩
theorem neqT (a b c d : Int) (w : World) : (binOp .neq 90 (.agg #[.int .u64 a, .int .u64 b]) (.agg #[.int .u64 c, .int .u64 d])).run Tryz.prog w = .ok (.bool (!decide (a = c ∧ b = d))) w := by
  simp [go_sem, Tryz.underlying90]
  by_cases h1 : a = c <;> by_cases h2 : b = d <;> simp [h1, h2]
end Go.Proofs.YtdodloannlfnlaaGreat.S10
namespace Go.Proofs.YtdodloannlfnlaaGreat.S10
open Go.Proofs.YtdodloannlfnlaaGreat

theorem one_of (L : List Ent) (a : Nat) : ∀ n, ((List.range n).map fun i => if i = a then L else []).flatten = if a < n then L else []
  | 0 => by simp
  | n + 1 => by
    rw [List.range_succ, List.map_append, List.flatten_append, one_of L a n]
    simp only [List.map_cons, List.map_nil, List.flatten_cons, List.flatten_nil, List.append_nil]
    by_cases h1 : a < n
    · rw [if_pos h1, if_neg (by omega), if_pos (by omega), List.append_nil]
    · by_cases h2 : n = a
      · rw [if_neg h1, if_pos h2, if_pos (by omega), List.nil_append]
      · rw [if_neg h1, if_neg h2, if_neg (by omega), List.nil_append]
theorem reh_below (h : Nat → Nat) (E : List Ent) : ∀ n, (reh h n E).flatten.length = (E.filter fun e => decide (h e.k.toNat < n)).length
  | 0 => by
    have : (E.filter fun e => decide (h e.k.toNat < 0)) = [] := List.filter_eq_nil_iff.2 (by simp)
    rw [this]; rfl
  | n + 1 => by
    have hs : reh h (n + 1) E = reh h n E ++ [bk h n E] := by unfold reh; rw [List.range_succ, List.map_append]; rfl
    rw [hs, List.flatten_append, List.length_append, reh_below h E n]
    simp only [List.flatten_cons, List.flatten_nil, List.append_nil]
    unfold bk
    clear hs
    induction E with
    | nil => rfl
    | cons e r ih =>
      simp only [List.filter_cons]
      by_cases h1 : h e.k.toNat < n
      · simp only [h1, show h e.k.toNat < n + 1 by omega, show ¬ h e.k.toNat = n by omega, decide_true, if_true, beq_iff_eq, if_false, List.length_cons]
        omega
      · by_cases h2 : h e.k.toNat = n
        · simp only [h2, show ¬ n < n by omega, show n < n + 1 by omega, decide_true, decide_false, if_true, beq_self_eq_true, List.length_cons]
          simp only [Bool.false_eq_true, if_false]
          omega
        · simp only [h1, h2, show ¬ h e.k.toNat < n + 1 by omega, decide_false, beq_iff_eq, if_false, Bool.false_eq_true]
          exact ih
theorem reh_total (h : Nat → Nat) (n : Nat) (E : List Ent) (hk : Keys E) (hlt : ∀ k, k < 4294967296 → h k < n) : (reh h n E).flatten.length = E.length := by
  rw [reh_below]
  congr 1
  rw [List.filter_eq_self]
  intro e he
  obtain ⟨k, hk1, hk2⟩ := hk e he
  rw [hk1, Int.toNat_natCast]
  simpa using hlt k hk2
end Go.Proofs.YtdodloannlfnlaaGreat.S10
namespace Go.Proofs.YtdodloannlfnlaaGreat.S10
open Go.Proofs.YtdodloannlfnlaaGreat
open Go.RowKit

structure Good (M : Int → List Bk) (N : Nat) : Prop where
  no : ∀ b, (b < 2 ∨ 8 < b) → M b = []
  size : ∀ b, M b ≠ [] → (M b).length = 2 ^ b.toNat
  keys : ∀ b, Keys ((M b).map Bk.q).flatten
  few : ∀ b, ((M b).map Bk.q).flatten.length ≤ N
theorem Good.len {M : Int → List Bk} {N : Nat} (h : Good M N) (b : Int) : (M b).length ≤ 256 := by
  by_cases h0 : M b = []
  · rw [h0]; simp
  · rw [h.size b h0]
    have : b.toNat ≤ 8 := by
      by_cases h1 : b < 2 ∨ 8 < b
      · exact absurd (h.no b h1) h0
      · omega
    calc 2 ^ b.toNat ≤ 2 ^ 8 := Nat.pow_le_pow_right (by omega) this
      _ = 256 := rfl
theorem Good.mono {M : Int → List Bk} {N N' : Nat} (h : Good M N) (hn : N ≤ N') : Good M N' := ⟨h.no, h.size, h.keys, fun b => Nat.le_trans (h.few b) hn⟩
theorem mem_q {L : List Bk} {i : Nat} (hi : i < L.length) {e : Ent} (he : e ∈ L[i]!.q) : e ∈ (L.map Bk.q).flatten := by
  rw [List.mem_flatten]
  rw [getElem!_pos L i hi] at he
  exact ⟨_, List.mem_map.2 ⟨_, List.getElem_mem hi, rfl⟩, he⟩
theorem q_len {L : List Bk} {i : Nat} (hi : i < L.length) : L[i]!.q.length ≤ (L.map Bk.q).flatten.length := by
  have h1 := cum_le (L.map Bk.q) (i + 1) (by rw [List.length_map]; omega)
  rw [cum_succ (by rw [List.length_map]; exact hi), map_at L hi] at h1
  omega
theorem flat_set (L : List Bk) {i : Nat} (hi : i < L.length) (x : Bk) : ((L.set i x).map Bk.q).flatten.length + L[i]!.q.length = (L.map Bk.q).flatten.length + x.q.length := by
  have h1 : L = L.take i ++ L[i]! :: L.drop (i + 1) := by
    rw [getElem!_pos L i hi, List.getElem_cons_drop, List.take_append_drop]
  have h2 : L.set i x = L.take i ++ x :: L.drop (i + 1) := by rw [List.set_eq_take_append_cons_drop, if_pos hi]
  have h3 : (L.map Bk.q).flatten.length = ((L.take i ++ L[i]! :: L.drop (i + 1)).map Bk.q).flatten.length := by rw [← h1]
  rw [h3, h2]
  simp only [List.map_append, List.map_cons, List.flatten_append, List.flatten_cons, List.length_append]
  omega
theorem mem_set {L : List Bk} {i : Nat} (hi : i < L.length) {x : Bk} {e : Ent} (he : e ∈ ((L.set i x).map Bk.q).flatten) : e ∈ (L.map Bk.q).flatten ∨ e ∈ x.q := by
  rw [List.mem_flatten] at he
  obtain ⟨l, hl, he⟩ := he
  rw [List.mem_map] at hl
  obtain ⟨y, hy, rfl⟩ := hl
  rcases List.mem_or_eq_of_mem_set hy with h | rfl
  · exact .inl (List.mem_flatten.2 ⟨_, List.mem_map.2 ⟨_, h, rfl⟩, he⟩)
  · exact .inr he
theorem Good.put {M : Int → List Bk} {N : Nat} (h : Good M N) (b : Int) {i : Nat} (hi : i < (M b).length) (x : Bk) (hk : Keys x.q) (X : Nat) (hx : x.q.length ≤ (M b)[i]!.q.length + X) : Good (upd M b ((M b).set i x)) (N + X) := by
  refine ⟨upd_no h.no b i x, fun b' hb => ?_, fun b' => ?_, fun b' => ?_⟩
  · rw [upd_len]
    refine h.size b' (fun e => hb ?_)
    have := upd_len M b i x b'
    rw [e] at this
    exact List.eq_nil_of_length_eq_zero (by simpa using this)
  · by_cases e : b' = b
    · subst e
      rw [upd_same]
      intro y hy
      rcases mem_set hi hy with h' | h'
      · exact h.keys b' y h'
      · exact hk y h'
    · rw [upd_ne _ _ e]; exact h.keys b'
  · by_cases e : b' = b
    · subst e
      rw [upd_same]
      have h1 := flat_set (M b') hi x
      have h2 := h.few b'
      omega
    · rw [upd_ne _ _ e]
      have := h.few b'
      omega
theorem hollow_flat (L : List Bk) : ((hollow L).map Bk.q).flatten = [] := by
  rw [List.flatten_eq_nil_iff]
  intro l hl
  simp only [hollow, List.map_map, List.mem_map] at hl
  obtain ⟨x, _, rfl⟩ := hl
  rfl
theorem fresh_q (now : Int) (Ls : List (List Ent)) : (fresh now Ls).map Bk.q = Ls := by
  simp only [fresh, List.map_map]
  exact (List.map_congr_left (fun _ _ => rfl)).trans (List.map_id _)
theorem keys_reh {h : Nat → Nat} {E : List Ent} (hk : Keys E) (n : Nat) : Keys (reh h n E).flatten := fun e he => by
  rw [List.mem_flatten] at he
  obtain ⟨l, hl, he⟩ := he
  simp only [reh, List.mem_map] at hl
  obtain ⟨i, _, rfl⟩ := hl
  exact hk e (List.mem_filter.1 he).1
theorem Good.grow {M : Int → List Bk} {N : Nat} (hg : Good M N) {fr tg : Int} (now : Int) (h1 : 2 ≤ fr) (h2 : fr < tg) (h3 : tg ≤ 8) {h : Nat → Nat} (hlt : ∀ k, k < 4294967296 → h k < 2 ^ tg.toNat) : Good (grown M h (2 ^ tg.toNat) fr tg now) N := by
  unfold grown
  refine ⟨fun b hb => ?_, fun b hb => ?_, fun b => ?_, fun b => ?_⟩
  · rw [upd_ne _ _ (by omega), upd_ne _ _ (by omega)]; exact hg.no b hb
  · by_cases e : b = tg
    · subst e
      rw [upd_same, fresh_len, reh_len]
    · rw [upd_ne _ _ e] at hb ⊢
      by_cases e2 : b = fr
      · subst e2
        rw [upd_same] at hb ⊢
        rw [hollow_len]
        exact hg.size b (fun e3 => hb (by rw [e3]; rfl))
      · rw [upd_ne _ _ e2] at hb ⊢
        exact hg.size b hb
  · by_cases e : b = tg
    · subst e
      rw [upd_same, fresh_q]
      exact keys_reh (hg.keys fr) _
    · rw [upd_ne _ _ e]
      by_cases e2 : b = fr
      · subst e2
        rw [upd_same, hollow_flat]
        intro e he; simp at he
      · rw [upd_ne _ _ e2]; exact hg.keys b
  · by_cases e : b = tg
    · subst e
      rw [upd_same, fresh_q, reh_total h _ _ (hg.keys fr) hlt]
      exact hg.few fr
    · rw [upd_ne _ _ e]
      by_cases e2 : b = fr
      · subst e2
        rw [upd_same, hollow_flat]; simp
      · rw [upd_ne _ _ e2]; exact hg.few b
theorem good_first (now : Int) : Good (M0 now) 0 := by
  have h2 : M0 now 2 = fresh now (List.replicate 4 []) := upd_same _ _ _
  have hno : ∀ b, b ≠ 2 → M0 now b = [] := fun b hb => upd_ne _ _ hb
  have hfl : (List.replicate 4 ([] : List Ent)).flatten = [] := rfl
  refine ⟨fun b hb => hno b (by omega), fun b hb => ?_, fun b => ?_, fun b => ?_⟩
  · by_cases e : b = 2
    · subst e; rw [h2, fresh_len]; rfl
    · exact absurd (hno b e) hb
  · by_cases e : b = 2
    · subst e; rw [h2, fresh_q, hfl]; intro e he; simp at he
    · rw [hno b e]; intro e he; simp at he
  · by_cases e : b = 2
    · subst e; rw [h2, fresh_q, hfl]; simp
    · rw [hno b e]; simp
theorem St.mono {w : World} {base : Nat} {own : Nat → Option Role} {s : Value} {n n' : Nat} {M : Int → List Bk} (h : St w base own s n M) (hn : n ≤ n') : St w base own s n' M := by
  obtain ⟨sb, mb, F, V, h⟩ := h
  obtain ⟨D, h1, h2, h3⟩ := h.hm
  exact ⟨sb, mb, F, V, h.fp, h.hs, h.hc, h.os, ⟨D, h1.mono hn, h2, h3⟩, h.om, h.ht, h.ot, h.hq, h.oq⟩

section
variable {M : Int → List Bk} {N : Nat}
theorem out_or (M : Int → List Bk) (b i : Int) : (i < 0 ∨ ((M b).length : Int) ≤ i) ∨ ∃ k : Nat, i = (k : Int) ∧ k < (M b).length := by
  by_cases h : i < 0 ∨ ((M b).length : Int) ≤ i
  · exact .inl h
  · exact .inr ⟨i.toNat, by omega, by omega⟩
theorem put_all (g : Good M N) {b : Int} (hb : InI b) (i : Int) {D : List Ent} (hk : Keys D) (hD : D.length ≤ 60) : ∃ (a : Bool) (M' : Int → List Bk), Good M' (N + 60) ∧
    (∀ W base own s n b0 A c, St W base own s n M → Rd W b0 A (flat D) → b0 ≤ W.heap.size → Calls Tryz.prog 17 #[s, .agg #[.int .i64 b, .int .i64 i], .slice A D.length c] W fun e w' => e = .returned (.bool a) ∧ ∃ own', St w' base own' s n M' ∧ Turns (Mine own) W w' ∧ Fresh own own' W) ∧
    (∀ W base own s b0 A c, Rt W base own s M → Rd W b0 A (flat D) → b0 ≤ W.heap.size → Calls Tryz.prog 18 #[s, .agg #[.int .i64 b, .int .i64 i], .slice A D.length c] W fun e w' => e = .returned (.bool a) ∧ ∃ own', Rt w' base own' s M' ∧ Turns (Mine own) W w' ∧ Fresh own own' W) := by
  rcases out_or M b i with h | ⟨k, rfl, h⟩
  · refine ⟨false, M, g.mono (by omega), fun W base own s n b0 A c hs hr hb0 => ?_, fun W base own s b0 A c hs hr hb0 => ?_⟩
    · obtain ⟨F, hr⟩ := hs.rs
      refine (put_no hr hb h A D.length c).mono ?_
      rintro e w' ⟨rfl, hbl⟩
      exact ⟨rfl, own, hs.new hbl, Turns.of_below hbl, Fresh.refl _ _⟩
    · refine (rput_no hs h A D.length c).mono ?_
      rintro e w' ⟨rfl, hbl⟩
      exact ⟨rfl, own, hs.new hbl, Turns.of_below hbl, Fresh.refl _ _⟩
  · refine ⟨true, _, g.put b h { (M b)[k]! with q := D } hk 60 (by show D.length ≤ _; omega), fun W base own s n b0 A c hs hr hb0 => put_yes hs hb h hr hb0 (by omega), fun W base own s b0 A c hs hr hb0 => rput_yes hs h hr hb0 (by omega)⟩
theorem putT_all (g : Good M N) {b : Int} (hb : InI b) (i ta tf : Int) : ∃ (a : Bool) (M' : Int → List Bk), Good M' N ∧
    (∀ W base own s n, St W base own s n M → Calls Tryz.prog 20 #[s, .agg #[.int .i64 b, .int .i64 i], .agg #[.int .u64 ta, .int .u64 tf]] W fun e w' => e = .returned (.bool a) ∧ St w' base own s n M' ∧ Turns (Mine own) W w') ∧
    (∀ W base own s, Rt W base own s M → Calls Tryz.prog 21 #[s, .agg #[.int .i64 b, .int .i64 i], .agg #[.int .u64 ta, .int .u64 tf]] W fun e w' => e = .returned (.bool a) ∧ Rt w' base own s M' ∧ Turns (Mine own) W w') := by
  rcases out_or M b i with h | ⟨k, rfl, h⟩
  · refine ⟨false, M, g, fun W base own s n hs => ?_, fun W base own s hs => ?_⟩
    · obtain ⟨F, hr⟩ := hs.rs
      refine (putT_no hr hb h ta tf).mono ?_
      rintro e w' ⟨rfl, hbl⟩
      exact ⟨rfl, hs.new hbl, Turns.of_below hbl⟩
    · refine (rputT_no hs h ta tf).mono ?_
      rintro e w' ⟨rfl, hbl⟩
      exact ⟨rfl, hs.new hbl, Turns.of_below hbl⟩
  · have hk : Keys (M b)[k]!.q := fun e he => g.keys b e (mem_q h he)
    exact ⟨true, _, (g.put b h { (M b)[k]! with a := ta, f := tf } hk 0 (by show (M b)[k]!.q.length ≤ _; omega)), fun W base own s n hs => putT_yes hs hb h ta tf, fun W base own s hs => rputT_yes hs h ta tf⟩
theorem queue_all (g : Good M N) (hN : N ≤ 100000) {b : Int} (hb : InI b) (i : Int) : ∃ D : List Ent, D.length ≤ 100000 ∧
    (∀ W base own s n, St W base own s n M → Calls Tryz.prog 76 #[s, .agg #[.int .i64 b, .int .i64 i]] W fun e w' => ∃ A', e = .returned (.slice A' D.length D.length) ∧ RowE w' W.heap.size (.slice A' D.length D.length) D ∧ Below W.heap.size W w') ∧
    (∀ W base own s, Rt W base own s M → Calls Tryz.prog 77 #[s, .agg #[.int .i64 b, .int .i64 i]] W fun e w' => ∃ A' c', e = .returned (.slice A' D.length c') ∧ D.length ≤ c' ∧ c' ≤ 9223372036854775807 ∧ Rd w' W.heap.size A' (flat D) ∧ Below W.heap.size W w') := by
  rcases out_or M b i with h | ⟨k, rfl, h⟩
  · refine ⟨[], by simp, fun W base own s n hs => ?_, fun W base own s hs => ?_⟩
    · obtain ⟨F, hr⟩ := hs.rs
      refine (queue_no hr hb h).mono ?_
      rintro e w' ⟨rfl, hbl⟩
      exact ⟨none, rfl, row_nil _ _ _, hbl⟩
    · refine (rqueue_no hs h).mono ?_
      rintro e w' ⟨rfl, hbl⟩
      exact ⟨none, 0, rfl, by simp, by omega, Rd.nil, hbl⟩
  · have hq := q_len h
    have := g.few b
    refine ⟨(M b)[k]!.q, by omega, fun W base own s n hs => ?_, fun W base own s hs => rqueue_yes hs h⟩
    obtain ⟨F, hr⟩ := hs.rs
    exact queue_yes hr hb h (by omega)
theorem timer_all (M : Int → List Bk) {b : Int} (hb : InI b) (i : Int) : ∃ ta tf : Int,
    (∀ W base own s n, St W base own s n M → Calls Tryz.prog 73 #[s, .agg #[.int .i64 b, .int .i64 i]] W fun e w' => e = .returned (.agg #[.int .u64 ta, .int .u64 tf]) ∧ Below W.heap.size W w') ∧
    (∀ W base own s, Rt W base own s M → Calls Tryz.prog 74 #[s, .agg #[.int .i64 b, .int .i64 i]] W fun e w' => e = .returned (.agg #[.int .u64 ta, .int .u64 tf]) ∧ Below W.heap.size W w') := by
  rcases out_or M b i with h | ⟨k, rfl, h⟩
  · refine ⟨0, 0, fun W base own s n hs => ?_, fun W base own s hs => rtimer_no hs h⟩
    obtain ⟨F, hr⟩ := hs.rs
    exact timer_no hr hb h
  · refine ⟨_, _, fun W base own s n hs => ?_, fun W base own s hs => rtimer_yes hs h⟩
    obtain ⟨F, hr⟩ := hs.rs
    exact timer_yes hr hb h
end
structure Both (w : World) (base : Nat) (own ownR : Nat → Option Role) (s r : Value) (n : Nat) (M : Int → List Bk) : Prop where
  st : St w base own s n M
  rt : Rt w base ownR r M
  dj : ∀ g, Mine own g → ¬ Mine ownR g
theorem Both.keep {w : World} {base : Nat} {own ownR : Nat → Option Role} {s r : Value} {n : Nat} {M : Int → List Bk} (h : Both w base own ownR s r n M) {S : Nat → Prop} {w' : World} (t : Turns S w w') (h1 : ∀ g, Mine own g → ¬ S g) (h2 : ∀ g, Mine ownR g → ¬ S g) : Both w' base own ownR s r n M := ⟨h.st.keep t h1, h.rt.keep t h2, h.dj⟩
theorem Both.new {w : World} {base : Nat} {own ownR : Nat → Option Role} {s r : Value} {n : Nat} {M : Int → List Bk} (h : Both w base own ownR s r n M) {w' : World} (hb : Below w.heap.size w w') : Both w' base own ownR s r n M := h.keep (Turns.of_below (S := fun _ => False) hb) (fun _ _ e => e) (fun _ _ e => e)
end Go.Proofs.YtdodloannlfnlaaGreat.S10
namespace Go.Proofs.YtdodloannlfnlaaGreat.S10
open Go.Proofs.YtdodloannlfnlaaGreat
open Go.RowKit

structure Sc (W : World) (base : Nat) (own ownR : Nat → Option Role) (s r : Value) (n : Nat) (M R : Int → List Bk) (Z : Nat → Prop) : Prop where
  st : St W base own s n M
  rt : Rt W base ownR r R
  dj : ∀ g, Mine own g → ¬ Mine ownR g
  cl : ∀ g, Z g → g < W.heap.size ∧ ¬ Mine own g ∧ ¬ Mine ownR g
section
variable {W w' : World} {base : Nat} {own ownR own' : Nat → Option Role} {s r : Value} {n n' : Nat} {M M' R R' : Int → List Bk} {Z : Nat → Prop}
theorem Sc.turn (h : Sc W base own ownR s r n M R Z) {S : Nat → Prop} (t : Turns S W w') (h1 : ∀ g, Mine own g → ¬ S g) (h2 : ∀ g, Mine ownR g → ¬ S g) : Sc w' base own ownR s r n M R Z :=
  ⟨h.st.keep t h1, h.rt.keep t h2, h.dj, fun g hz => ⟨Nat.lt_of_lt_of_le (h.cl g hz).1 t.size, (h.cl g hz).2⟩⟩
theorem Sc.new (h : Sc W base own ownR s r n M R Z) (hb : Below W.heap.size W w') : Sc w' base own ownR s r n M R Z :=
  h.turn (Turns.of_below (S := fun _ => False) hb) (fun _ _ e => e) (fun _ _ e => e)
theorem Sc.drew (h : Sc W base own ownR s r n M R Z) : Sc W.drew base own ownR s r n M R Z := h.turn (Turns.refl (fun _ => False) W).drew (fun _ _ e => e) (fun _ _ e => e)
theorem Sc.one (h : Sc W base own ownR s r n M R Z) (hs : St w' base own' s n' M') (t : Turns (Mine own) W w') (f : Fresh own own' W) : Sc w' base own' ownR s r n' M' R Z ∧ Turns (fun g => ¬ Z g) W w' ∧ Below base W w' := by
  have hr : ∀ g, Mine ownR g → g < W.heap.size := fun g hg => (h.rt.fp hg).2
  refine ⟨⟨hs, h.rt.keep t (fun g hg hs => h.dj g hs hg), fun g hg hg' => ?_, fun g hz => ?_⟩, t.mono (fun g _ hg hz => (h.cl g hz).2.1 hg), t.below h.st.le (fun k hk hm => by have := (h.st.fp hm).1; omega)⟩
  · obtain ⟨r1, e⟩ := hg
    rcases f g r1 e with h' | h'
    · exact h.dj g h' hg'
    · have := hr g hg'; omega
  · obtain ⟨h1, h2, h3⟩ := h.cl g hz
    refine ⟨Nat.lt_of_lt_of_le h1 t.size, fun ⟨r1, e⟩ => ?_, h3⟩
    rcases f g r1 e with h' | h'
    · exact h2 h'
    · omega
theorem Sc.add (h : Sc W base own ownR s r n M R Z) (hb : Below W.heap.size W w') {Y : Nat → Prop} (hy : ∀ g, Y g → W.heap.size ≤ g ∧ g < w'.heap.size) : Sc w' base own ownR s r n M R (fun g => Z g ∨ Y g) := by
  have h1 := h.new hb
  refine ⟨h1.st, h1.rt, h.dj, fun g hg => ?_⟩
  rcases hg with hz | hy'
  · exact h1.cl g hz
  · have := hy g hy'
    refine ⟨this.2, fun hm => ?_, fun hm => ?_⟩
    · have := (h.st.fp hm).2; omega
    · have := (h.rt.fp hm).2; omega
theorem Sc.sub (h : Sc W base own ownR s r n M R Z) {Y : Nat → Prop} (hy : ∀ g, Y g → Z g) : Sc W base own ownR s r n M R Y := ⟨h.st, h.rt, h.dj, fun g hg => h.cl g (hy g hg)⟩
end
end Go.Proofs.YtdodloannlfnlaaGreat.S10
namespace Go.Proofs.YtdodloannlfnlaaGreat.S11
open Go.Proofs.YtdodloannlfnlaaGreat
open Go.RowKit

theorem keep7 {w w' : World} {K : IntKind} {base g o : Nat} {d : Nt} (hb : Below base w w') (hg : g < base) (h : w.cell? ⟨g, o, none⟩ = some (.int .i64 d.s) ∧ w.cell? ⟨g, o + 1, none⟩ = some (.int .i64 d.t) ∧ w.cell? ⟨g, o + 2, none⟩ = some (.int K (d.k : Int)) ∧ w.cell? ⟨g, o + 3, none⟩ = some (.int .u32 d.a) ∧ w.cell? ⟨g, o + 4, none⟩ = some (.int .i64 d.o) ∧ w.cell? ⟨g, o + 5, none⟩ = some (.int .u32 d.b) ∧ w.cell? ⟨g, o + 6, none⟩ = some (.int .u64 d.v)) : w'.cell? ⟨g, o, none⟩ = some (.int .i64 d.s) ∧ w'.cell? ⟨g, o + 1, none⟩ = some (.int .i64 d.t) ∧ w'.cell? ⟨g, o + 2, none⟩ = some (.int K (d.k : Int)) ∧ w'.cell? ⟨g, o + 3, none⟩ = some (.int .u32 d.a) ∧ w'.cell? ⟨g, o + 4, none⟩ = some (.int .i64 d.o) ∧ w'.cell? ⟨g, o + 5, none⟩ = some (.int .u32 d.b) ∧ w'.cell? ⟨g, o + 6, none⟩ = some (.int .u64 d.v) :=
  ⟨(hb.cell (by exact hg)).trans h.1, (hb.cell (by exact hg)).trans h.2.1, (hb.cell (by exact hg)).trans h.2.2.1, (hb.cell (by exact hg)).trans h.2.2.2.1, (hb.cell (by exact hg)).trans h.2.2.2.2.1, (hb.cell (by exact hg)).trans h.2.2.2.2.2.1, (hb.cell (by exact hg)).trans h.2.2.2.2.2.2⟩
theorem NtAt.all {w : World} {K : IntKind} {g o : Nat} {d : Nt} (h : NtAt w K g o d) : w.cell? ⟨g, o, none⟩ = some (.int .i64 d.s) ∧ w.cell? ⟨g, o + 1, none⟩ = some (.int .i64 d.t) ∧ w.cell? ⟨g, o + 2, none⟩ = some (.int K (d.k : Int)) ∧ w.cell? ⟨g, o + 3, none⟩ = some (.int .u32 d.a) ∧ w.cell? ⟨g, o + 4, none⟩ = some (.int .i64 d.o) ∧ w.cell? ⟨g, o + 5, none⟩ = some (.int .u32 d.b) ∧ w.cell? ⟨g, o + 6, none⟩ = some (.int .u64 d.v) := ⟨h.c0, h.c1, h.c2, h.c3, h.c4, h.c5, h.c6⟩
set_option maxHeartbeats 2000000 in
set_option maxRecDepth 100000 in
theorem same_any {w : World} {b1 b2 : Nat} {A B : Option Addr} {D : List Nt} (c c' : Nat) (hr1 : Rd w b1 A (flat .u8 D)) (hr2 : Rd w b2 B (flat .i64 D)) (hb1 : b1 ≤ w.heap.size) (hb2 : b2 ≤ w.heap.size) (hlen : D.length ≤ 3000000) (hks : ∀ d ∈ D, d.k < 256) :
    Calls Tryz.prog 25 #[.slice A D.length c, .slice B D.length c'] w fun e w' => e = .returned (.bool true) ∧ Below w.heap.size w w' := by
  have H1 := Lib.hid hr1; have H2 := Lib.hid hr2; have HS1 := Lib.hid hb1; have HS2 := Lib.hid hb2; have HKS := Lib.hid hks
  clear hr1 hr2 hb1 hb2 hks
  obtain ⟨n, hn⟩ : ∃ n, n = D.length := ⟨_, rfl⟩
  rw [← hn]
  have HN := Lib.hid hn
  have hn6 : n ≤ 3000000 := by omega
  clear hn hlen
  go_enter Tryz.func25, Tryz.ntmps25
  go_wp2_with fail
  go_loopg [5] n (fun q s5 wx => ∃ k : Nat, k ≤ n ∧ q = n - k ∧ s5 = .int .i64 (k : Int) ∧ Below w.heap.size w wx)
  case atStart => exact ⟨0, by omega, rfl, rfl, Below.refl _ _⟩
  case round =>
    obtain ⟨k, hk, rfl, rfl, hb⟩ := hrel
    have HB := Lib.hid hb
    clear hb
    by_cases hkn : k < n
    · obtain ⟨g1, o1, rfl, hg1, hN1⟩ := (H1.out.below HB.out HS1.out).note (i := k) (by have := HN.out; omega)
      obtain ⟨g2, o2, rfl, hg2, hN2⟩ := (H2.out.below HB.out HS2.out).note (i := k) (by have := HN.out; omega)
      have hl1 : g1 < wr.heap.size := by have := HB.out.size; have := HS1.out; omega
      have hl2 : g2 < wr.heap.size := by have := HB.out.size; have := HS2.out; omega
      have hdk : D[k]!.k < 256 := HKS.out _ (by have := HN.out; rw [getElem!_pos D k (by omega)]; exact List.getElem_mem _)
      generalize hd : D[k]! = d at *
      clear hd
      have hne := fun W => neq40 d d W
      simp only [decide_true, Bool.not_true] at hne
      go_upto_region 6 with (fail)
      refine wp_region_held_drew (S := fun w' => (w'.cell? ⟨g1, o1 + k * 7, none⟩ = some (.int .i64 d.s) ∧ w'.cell? ⟨g1, o1 + k * 7 + 1, none⟩ = some (.int .i64 d.t) ∧ w'.cell? ⟨g1, o1 + k * 7 + 2, none⟩ = some (.int .u8 (d.k : Int)) ∧ w'.cell? ⟨g1, o1 + k * 7 + 3, none⟩ = some (.int .u32 d.a) ∧ w'.cell? ⟨g1, o1 + k * 7 + 4, none⟩ = some (.int .i64 d.o) ∧ w'.cell? ⟨g1, o1 + k * 7 + 5, none⟩ = some (.int .u32 d.b) ∧ w'.cell? ⟨g1, o1 + k * 7 + 6, none⟩ = some (.int .u64 d.v)) ∧ (w'.cell? ⟨g2, o2 + k * 7, none⟩ = some (.int .i64 d.s) ∧ w'.cell? ⟨g2, o2 + k * 7 + 1, none⟩ = some (.int .i64 d.t) ∧ w'.cell? ⟨g2, o2 + k * 7 + 2, none⟩ = some (.int .i64 (d.k : Int)) ∧ w'.cell? ⟨g2, o2 + k * 7 + 3, none⟩ = some (.int .u32 d.a) ∧ w'.cell? ⟨g2, o2 + k * 7 + 4, none⟩ = some (.int .i64 d.o) ∧ w'.cell? ⟨g2, o2 + k * 7 + 5, none⟩ = some (.int .u32 d.b) ∧ w'.cell? ⟨g2, o2 + k * 7 + 6, none⟩ = some (.int .u64 d.v)) ∧ Below wr.heap.size wr w') (by kernel_rfl) ?_ (fun hHeld => ?_)
      · exact ⟨hN1.all, hN2.all, (Below.refl _ wr).drew⟩
      refine wpAnyH_take (i := 0) (oi := ({ dst := some 17, op := Op.move (Operand.tmp 0), type := 100, pos := "law.go:60", after := #[], guard := none } : Oper)) (v := ?v0) rfl (by kernel_rfl) (by kernel_rfl) (by kernel_rfl) (fun _ _ _ h => h) (Or.inl ⟨by rfl, fun w hSw => ?hy0⟩) (by assumption) ?r0
      case hy0 => (try dsimp only at hSw); go_simp; (try with_reducible rfl)
      (try simp only [Act.put, List.setIfInBounds_toArray, List.set_cons_zero, List.set_cons_succ])
      refine wpAnyH_take (i := 1) (oi := ({ dst := some 18, op := Op.move (Operand.tmp 5), type := 3, pos := "law.go:60", after := #[], guard := none } : Oper)) (v := ?v1) rfl (by kernel_rfl) (by kernel_rfl) (by kernel_rfl) (fun _ _ _ h => h) (Or.inl ⟨by rfl, fun w hSw => ?hy1⟩) (by assumption) ?r1
      case hy1 => (try dsimp only at hSw); go_simp; (try with_reducible rfl)
      (try simp only [Act.put, List.setIfInBounds_toArray, List.set_cons_zero, List.set_cons_succ])
      refine wpAnyH_take (i := 2) (oi := ({ dst := some 19, op := Op.indexAddr 100 (Operand.tmp 17) (Operand.tmp 18), type := 0, pos := "law.go:60", after := #[{ on := 0, ground := Ground.data }, { on := 1, ground := Ground.data }], guard := none } : Oper)) (v := ?v2) rfl (by kernel_rfl) (by kernel_rfl) (by kernel_rfl) (fun _ _ _ h => h) (Or.inl ⟨by rfl, fun w hSw => ?hy2⟩) (by assumption) ?r2
      case hy2 => (try dsimp only at hSw); go_simp; (try with_reducible rfl)
      (try simp only [Act.put, List.setIfInBounds_toArray, List.set_cons_zero, List.set_cons_succ])
      refine wpAnyH_take (i := 3) (oi := ({ dst := some 20, op := Op.load 184 (Operand.tmp 19), type := 184, pos := "law.go:60", after := #[{ on := 2, ground := Ground.data }], guard := none } : Oper)) (v := ?v3) rfl (by kernel_rfl) (by kernel_rfl) (by kernel_rfl) (fun _ _ _ h => h) (Or.inl ⟨by rfl, fun w hSw => ?hy3⟩) (by assumption) ?r3
      case hy3 => (try dsimp only at hSw); go_simp; (try with_reducible rfl)
      (try simp only [Act.put, List.setIfInBounds_toArray, List.set_cons_zero, List.set_cons_succ])
      refine wpAnyH_take (i := 5) (oi := ({ dst := some 22, op := Op.move (Operand.tmp 1), type := 102, pos := "law.go:60", after := #[], guard := none } : Oper)) (v := ?v5) rfl (by kernel_rfl) (by kernel_rfl) (by kernel_rfl) (fun _ _ _ h => h) (Or.inl ⟨by rfl, fun w hSw => ?hy5⟩) (by assumption) ?r5
      case hy5 => (try dsimp only at hSw); go_simp; (try with_reducible rfl)
      (try simp only [Act.put, List.setIfInBounds_toArray, List.set_cons_zero, List.set_cons_succ])
      refine wpAnyH_take (i := 6) (oi := ({ dst := some 23, op := Op.move (Operand.tmp 5), type := 3, pos := "law.go:60", after := #[], guard := none } : Oper)) (v := ?v6) rfl (by kernel_rfl) (by kernel_rfl) (by kernel_rfl) (fun _ _ _ h => h) (Or.inl ⟨by rfl, fun w hSw => ?hy6⟩) (by assumption) ?r6
      case hy6 => (try dsimp only at hSw); go_simp; (try with_reducible rfl)
      (try simp only [Act.put, List.setIfInBounds_toArray, List.set_cons_zero, List.set_cons_succ])
      refine wpAnyH_take (i := 7) (oi := ({ dst := some 24, op := Op.indexAddr 102 (Operand.tmp 22) (Operand.tmp 23), type := 0, pos := "law.go:60", after := #[{ on := 5, ground := Ground.data }, { on := 6, ground := Ground.data }], guard := none } : Oper)) (v := ?v7) rfl (by kernel_rfl) (by kernel_rfl) (by kernel_rfl) (fun _ _ _ h => h) (Or.inl ⟨by rfl, fun w hSw => ?hy7⟩) (by assumption) ?r7
      case hy7 => (try dsimp only at hSw); go_simp; (try with_reducible rfl)
      (try simp only [Act.put, List.setIfInBounds_toArray, List.set_cons_zero, List.set_cons_succ])
      refine wpAnyH_take (i := 8) (oi := ({ dst := some 25, op := Op.load 180 (Operand.tmp 24), type := 180, pos := "law.go:60", after := #[{ on := 7, ground := Ground.data }], guard := none } : Oper)) (v := ?v8) rfl (by kernel_rfl) (by kernel_rfl) (by kernel_rfl) (fun _ _ _ h => h) (Or.inl ⟨by rfl, fun w hSw => ?hy8⟩) (by assumption) ?r8
      case hy8 => (try dsimp only at hSw); go_simp; (try with_reducible rfl)
      (try simp only [Act.put, List.setIfInBounds_toArray, List.set_cons_zero, List.set_cons_succ])
      refine wpAnyH_ready (rs := [4]) (by kernel_rfl) (by simp) ?_
      refine AllReadyH.cons (o := ({ dst := some 21, op := Op.call { callee := Callee.value (Operand.func 70), args := #[Operand.tmp 20], argTypes := #[184] }, type := 180, pos := "law.go:60", after := #[{ on := 3, ground := Ground.data }], guard := none } : Oper)) rfl (fun Kq hKq => ?_) AllReadyH.nil
      go_simp
      (refine (other_any d hdk _).mono ?_; rintro e w1 ⟨rfl, hb1⟩)
      refine hKq.out _ _ ?_ (fun hHeld => ?_)
      · exact ⟨keep7 hb1 (by have := hHeld.2.2.size; omega) hHeld.1, keep7 hb1 (by have := hHeld.2.2.size; omega) hHeld.2.1, hHeld.2.2.trans (hb1.mono hHeld.2.2.size)⟩
      clear hKq Kq
      (try simp only [Act.put, List.setIfInBounds_toArray, List.set_cons_zero, List.set_cons_succ])
      refine wpAnyH_take (i := 9) (oi := ({ dst := some 26, op := Op.binOp BinOp.neq 180 (Operand.tmp 21) (Operand.tmp 25) 180, type := 4, pos := "law.go:60", after := #[{ on := 4, ground := Ground.data }, { on := 8, ground := Ground.data }], guard := none } : Oper)) (v := ?v9) rfl (by kernel_rfl) (by kernel_rfl) (by kernel_rfl) (fun _ _ _ h => h) (Or.inl ⟨by rfl, fun w hSw => ?hy9⟩) (by assumption) ?r9
      case hy9 => (try dsimp only at hSw); go_simp; (try with_reducible rfl)
      (try simp only [Act.put, List.setIfInBounds_toArray, List.set_cons_zero, List.set_cons_succ])
      refine wpAnyH_done (by kernel_rfl) ?_ _
      have HH := Lib.hid hHeld.2.2
      clear hHeld
      go_wp2_with fail
      go_roundg (n - (k + 1))
      case measure => omega
      case rel => exact ⟨k + 1, by omega, rfl, by go_num, HB.out.trans (HH.out.mono HB.out.size)⟩
    · obtain rfl : k = n := by omega
      go_wp2_with fail
      go_ret
      exact ⟨rfl, HB.out⟩
end Go.Proofs.YtdodloannlfnlaaGreat.S11
namespace Go.Proofs.YtdodloannlfnlaaGreat.S12
open Go.Proofs.YtdodloannlfnlaaGreat Go.Proofs.YtdodloannlfnlaaGreat.S11
open Go.RowKit

def rcellsP (base R : Nat) (s : Value) (L : S2.LL) (n k a was is : Nat) : Part where
  ok w := S2.RefAt w base R s L n k a was is
  fp k := k = R ∨ s.ownBlock = some k
  lt w h k e := by
    rcases e with rfl | e
    · exact h.lt
    · exact (h.own.lt k e).2
  kept S w w' h t hs := h.kept (S := S) ⟨t.os, t.tape, t.output, t.size, t.block⟩ (hs R (.inl rfl)) (fun g e => hs g (.inr e))
def rclockP (base B T most : Nat) (s : Value) (D : List Nat) : Part where
  ok w := S3.RefAt w base B T most s D
  fp k := k = B ∨ s.ownBlock = some k
  lt w h k e := by
    rcases e with rfl | e
    · exact h.lt
    · exact (h.own.lt k e).2
  kept S w w' h t hs := h.kept (S := S) ⟨t.os, t.tape, t.output, t.size, t.block⟩ (hs B (.inl rfl)) (fun g e => hs g (.inr e))
def rtablesP (base : Nat) (own : Nat → Option S10.Role) (s : Value) (M : Int → List S10.Bk) : Part where
  ok w := S10.Rt w base own s M
  fp k := S10.Mine own k
  lt w h k e := (h.fp e).2
  kept S w w' h t hs := h.keep (S := S) ⟨t.os, t.tape, t.output, t.size, t.block⟩ hs
section
variable {w w' : World} {base b0 i : Nat} {l : List Part}
theorem t_rcells {R : Nat} {s s' : Value} {L L' : S2.LL} {n k a was is n' k' a' was' is' : Nat} (h : Parts w base l) (hi : l[i]? = some (rcellsP b0 R s L n k a was is)) (c : S2.RefAt w' b0 R s' L' n' k' a' was' is') (ho : ∀ g, s'.ownBlock = some g → s.ownBlock = some g ∨ w.heap.size ≤ g) (t : S2.Turns (fun k => k = R ∨ s.ownBlock = some k) w w') :
    Parts w' base (l.set i (rcellsP b0 R s' L' n' k' a' was' is')) ∧ Below base w w' := by
  refine h.turn hi (rcellsP b0 R s' L' n' k' a' was' is') c ⟨t.os, t.tape, t.output, t.size, t.block⟩ (fun k e => ?_)
  rcases e with e | e
  · exact .inl (.inl e)
  · rcases ho k e with e | e
    · exact .inl (.inr e)
    · exact .inr e
theorem t_rclock {B T most T' most' : Nat} {s s' : Value} {D D' : List Nat} (h : Parts w base l) (hi : l[i]? = some (rclockP b0 B T most s D)) (c : S3.RefAt w' b0 B T' most' s' D') (ho : ∀ g, s'.ownBlock = some g → s.ownBlock = some g ∨ w.heap.size ≤ g) (t : S3.Turns (fun k => k = B ∨ s.ownBlock = some k) w w') :
    Parts w' base (l.set i (rclockP b0 B T' most' s' D')) ∧ Below base w w' := by
  refine h.turn hi (rclockP b0 B T' most' s' D') c ⟨t.os, t.tape, t.output, t.size, t.block⟩ (fun k e => ?_)
  rcases e with e | e
  · exact .inl (.inl e)
  · rcases ho k e with e | e
    · exact .inl (.inr e)
    · exact .inr e
theorem t_rtables {own own' : Nat → Option S10.Role} {s : Value} {M M' : Int → List S10.Bk} (h : Parts w base l) (hi : l[i]? = some (rtablesP b0 own s M)) (c : S10.Rt w' b0 own' s M') (t : S10.Turns (S10.Mine own) w w') (f : S10.Fresh own own' w) :
    Parts w' base (l.set i (rtablesP b0 own' s M')) ∧ Below base w w' :=
  h.turn hi (rtablesP b0 own' s M') c ⟨t.os, t.tape, t.output, t.size, t.block⟩ (fun k ⟨r, e⟩ => f k r e)
end
end Go.Proofs.YtdodloannlfnlaaGreat.S12
namespace Go.Proofs.YtdodloannlfnlaaGreat.S12
open Go.Proofs.YtdodloannlfnlaaGreat

section
variable {P : Program} {ops : Array Oper} {Q : Exit → Act → World → Prop} {md : Region.Mode} {S : World → Prop}
def openN (L : Array Bool) : Nat := L.toList.count false
theorem openN_set {L : Array Bool} {i : Nat} (h : L[i]? = some false) : openN (L.setIfInBounds i true) + 1 = openN L := by
  obtain ⟨l⟩ := L
  simp only [openN, List.setIfInBounds_toArray] at *
  simp only [List.getElem?_toArray] at h
  induction l generalizing i with
  | nil => simp at h
  | cons x r ih =>
    cases i with
    | zero => simp at h; subst h; simp
    | succ i =>
      simp at h
      have := ih (i := i) h
      cases x <;> simp <;> omega
theorem ready_open {L : Array Bool} {i : Nat} (h : i ∈ Region.ready md ops L) : L[i]? = some false := by
  have h0 := (mem_ready.1 h).1
  rw [Array.getD_eq_getD_getElem?] at h0
  cases e : L[i]? with
  | none => rw [e] at h0; cases h0
  | some x => rw [e] at h0; simp at h0; rw [h0]
theorem ready_full {L : Array Bool} (h : openN L = 0) : Region.ready md ops L = [] := by
  cases e : Region.ready md ops L with
  | nil => rfl
  | cons i r =>
    have hi : i ∈ Region.ready md ops L := by rw [e]; simp
    have := openN_set (ready_open hi)
    omega
theorem wpAnyH_inv (I : Array Bool → Act → World → Prop)
    (step : ∀ L a w, I L a w → ∀ i ∈ Region.ready md ops L, wpOp P ops Q i (fun a' w' => S w' ∧ I (L.setIfInBounds i true) a' w') a w)
    (done : ∀ L a w, I L a w → Region.ready md ops L = [] → Q .normal a w) :
    ∀ (fuel : Nat) (L : Array Bool) (a : Act) (w : World), openN L ≤ fuel → I L a w → wpAnyH P md ops Q S fuel L a w
  | 0, L, a, w, hf, h => ⟨ready_full (by omega), done L a w h (ready_full (by omega))⟩
  | fuel + 1, L, a, w, hf, h => ⟨fun h0 => done L a w h h0, fun i hi => wpOp_mono (fun a' w' h' => ⟨h'.1, wpAnyH_inv I step done fuel _ a' w' (by have := openN_set (ready_open hi); omega) h'.2⟩) (step L a w h i hi)⟩
theorem wpAnyH_inv2 (I : Array Bool → Act → World → Prop)
    (step : ∀ fuel L a w, I L a w → openN L ≤ fuel → wpAnyH P md ops Q S fuel L a w ∨ (Region.ready md ops L ≠ [] ∧ ∀ i ∈ Region.ready md ops L, wpOp P ops Q i (fun a' w' => S w' ∧ I (L.setIfInBounds i true) a' w') a w)) :
    ∀ (fuel : Nat) (L : Array Bool) (a : Act) (w : World), openN L ≤ fuel → I L a w → wpAnyH P md ops Q S fuel L a w
  | 0, L, a, w, hf, h => by
    rcases step 0 L a w h hf with hs | ⟨hne, _⟩
    · exact hs
    · exact absurd (ready_full (by omega)) hne
  | fuel + 1, L, a, w, hf, h => by
    rcases step (fuel + 1) L a w h hf with hs | ⟨hne, hs⟩
    · exact hs
    · exact ⟨fun h0 => absurd h0 hne, fun i hi => wpOp_mono (fun a' w' h' => ⟨h'.1, wpAnyH_inv2 I step fuel _ a' w' (by have := openN_set (ready_open hi); omega) h'.2⟩) (hs i hi)⟩
end
end Go.Proofs.YtdodloannlfnlaaGreat.S12
namespace Go.Proofs.YtdodloannlfnlaaGreat.S2
open Go.Proofs.YtdodloannlfnlaaGreat
open Go.RowKit Go.Maps

def RNew (w : World) (L : LL) (e : Ending) (w' : World) : Prop := ∃ R s, e = .returned (Pt R) ∧ w.heap.size ≤ R ∧ RefAt w' w.heap.size R s L 0 0 0 0 0 ∧ Below w.heap.size w w'
set_option maxHeartbeats 4000000 in
set_option maxRecDepth 100000 in
theorem rnew_any (p : Option Addr) (n c : Nat) (A V : Nat → Nat) (hn : n ≤ 100) (hok : WOk n A V) (w : World) (hin : WIn w w.heap.size p n A V) :
    Calls Tryz.prog 37 #[.slice p n c] w (RNew w (newL A V n)) := by
  have s0 : RefAt (w.alloc (.cells #[.slice none 0 0, .int .i64 0, .int .u8 0, .int .u32 0, .int .u64 0, .int .u64 0] 176)) w.heap.size w.heap.size (.slice none 0 0) [] 0 0 0 0 0 := ⟨good_nil, heap_alloc_new w _, World.ownsRow_nil _ _ _ _, by simp [Value.ownBlock]⟩
  have hb0 : Below w.heap.size w (w.alloc (.cells #[.slice none 0 0, .int .i64 0, .int .u8 0, .int .u32 0, .int .u64 0, .int .u64 0] 176)) := (Below.refl _ _).alloc (Nat.le_refl _) _
  have S0 := Lib.hid s0; have B0 := Lib.hid hb0; have HIN := Lib.hid hin; have HOK := Lib.hid hok
  clear s0 hb0 hin hok
  go_enter Tryz.func37, Tryz.ntmps37
  go_wp2_with fail
  go_loopg [4] n (fun q s4 wx => ∃ (k : Nat) (s : Value) (kd a was is : Nat), k ≤ n ∧ q = n - k ∧ s4 = .int .i64 k ∧ RefAt wx w.heap.size w.heap.size s (newL A V k) k kd a was is ∧ Below w.heap.size w wx)
  case atStart => exact ⟨0, _, 0, 0, 0, 0, by omega, rfl, rfl, S0.out, B0.out⟩
  case round =>
    obtain ⟨k, s, kd, a, was, is, hk, rfl, rfl, hst, hb⟩ := hrel
    have HST := Lib.hid hst; have HB := Lib.hid hb
    clear hst
    by_cases hkn : k < n
    · obtain ⟨lb, lo, rfl, hlb, hc⟩ := HIN.out.below hb (Nat.le_refl _) (by omega)
      obtain ⟨d0, d1⟩ := hc k hkn
      obtain ⟨hA, hV⟩ := HOK.out k hkn
      have hsz := hb.size
      clear hc hb
      have hL : newL A V (k + 1) = putL (newL A V k) (A k) (bring (A k) (V k)) := rfl
      have HL := Lib.hid hL
      have RD := Lib.hid (HST.out.kept (turns_drew (fun _ => False) _) (fun h => h) (fun _ _ h => h))
      have hlbR : lb ≠ w.heap.size := by omega
      have LBR := Lib.hid hlbR
      clear hL hlbR
      go_upto_region 5 with (fail)
      refine wp_region_held_drew (S := fun w' => w'.cell? ⟨lb, lo + k * 2, none⟩ = some (.int .u32 (A k)) ∧ w'.cell? ⟨lb, lo + k * 2 + 1, none⟩ = some (.int .u64 (V k))) (by kernel_rfl) ?_ (fun hHeld => ?_)
      · exact ⟨d0, d1⟩
      refine wpAnyH_take (i := 0) (oi := ({ dst := some 13, op := Op.move (Operand.tmp 3), type := 61, pos := "ref.go:23", after := #[], guard := none } : Oper)) (v := ?vm0) rfl (by kernel_rfl) (by kernel_rfl) (by kernel_rfl) (fun _ _ _ h => h) (Or.inl ⟨by rfl, fun w hSw => ?hym0⟩) (by assumption) ?rm0
      case hym0 => (try dsimp only at hSw); go_simp; (try with_reducible rfl)
      (try simp only [Act.put, List.setIfInBounds_toArray, List.set_cons_zero, List.set_cons_succ])
      refine wpAnyH_take (i := 1) (oi := ({ dst := some 14, op := Op.move (Operand.tmp 0), type := 125, pos := "ref.go:23", after := #[], guard := none } : Oper)) (v := ?vm1) rfl (by kernel_rfl) (by kernel_rfl) (by kernel_rfl) (fun _ _ _ h => h) (Or.inl ⟨by rfl, fun w hSw => ?hym1⟩) (by assumption) ?rm1
      case hym1 => (try dsimp only at hSw); go_simp; (try with_reducible rfl)
      (try simp only [Act.put, List.setIfInBounds_toArray, List.set_cons_zero, List.set_cons_succ])
      refine wpAnyH_take (i := 2) (oi := ({ dst := some 15, op := Op.move (Operand.tmp 4), type := 3, pos := "ref.go:23", after := #[], guard := none } : Oper)) (v := ?vm2) rfl (by kernel_rfl) (by kernel_rfl) (by kernel_rfl) (fun _ _ _ h => h) (Or.inl ⟨by rfl, fun w hSw => ?hym2⟩) (by assumption) ?rm2
      case hym2 => (try dsimp only at hSw); go_simp; (try with_reducible rfl)
      (try simp only [Act.put, List.setIfInBounds_toArray, List.set_cons_zero, List.set_cons_succ])
      refine wpAnyH_take (i := 3) (oi := ({ dst := some 16, op := Op.indexAddr 125 (Operand.tmp 14) (Operand.tmp 15), type := 0, pos := "ref.go:23", after := #[{ on := 1, ground := Ground.data }, { on := 2, ground := Ground.data }], guard := none } : Oper)) (v := ?vm3) rfl (by kernel_rfl) (by kernel_rfl) (by kernel_rfl) (fun _ _ _ h => h) (Or.inl ⟨by rfl, fun w hSw => ?hym3⟩) (by assumption) ?rm3
      case hym3 => (try dsimp only at hSw); go_simp; (try with_reducible rfl)
      (try simp only [Act.put, List.setIfInBounds_toArray, List.set_cons_zero, List.set_cons_succ])
      refine wpAnyH_take (i := 4) (oi := ({ dst := some 17, op := Op.fieldAddr 124 (Operand.tmp 16) 0, type := 0, pos := "ref.go:23", after := #[{ on := 3, ground := Ground.data }], guard := none } : Oper)) (v := ?vm4) rfl (by kernel_rfl) (by kernel_rfl) (by kernel_rfl) (fun _ _ _ h => h) (Or.inl ⟨by rfl, fun w hSw => ?hym4⟩) (by assumption) ?rm4
      case hym4 => (try dsimp only at hSw); go_simp; (try with_reducible rfl)
      (try simp only [Act.put, List.setIfInBounds_toArray, List.set_cons_zero, List.set_cons_succ])
      refine wpAnyH_take (i := 5) (oi := ({ dst := some 18, op := Op.load 72 (Operand.tmp 17), type := 72, pos := "ref.go:23", after := #[{ on := 4, ground := Ground.data }], guard := none } : Oper)) (v := ?vm5) rfl (by kernel_rfl) (by kernel_rfl) (by kernel_rfl) (fun _ _ _ h => h) (Or.inl ⟨by rfl, fun w hSw => ?hym5⟩) (by assumption) ?rm5
      case hym5 => (try dsimp only at hSw); go_simp; (try with_reducible rfl)
      (try simp only [Act.put, List.setIfInBounds_toArray, List.set_cons_zero, List.set_cons_succ])
      refine wpAnyH_take (i := 6) (oi := ({ dst := some 19, op := Op.move (Operand.tmp 0), type := 125, pos := "ref.go:23", after := #[], guard := none } : Oper)) (v := ?vm6) rfl (by kernel_rfl) (by kernel_rfl) (by kernel_rfl) (fun _ _ _ h => h) (Or.inl ⟨by rfl, fun w hSw => ?hym6⟩) (by assumption) ?rm6
      case hym6 => (try dsimp only at hSw); go_simp; (try with_reducible rfl)
      (try simp only [Act.put, List.setIfInBounds_toArray, List.set_cons_zero, List.set_cons_succ])
      refine wpAnyH_take (i := 7) (oi := ({ dst := some 20, op := Op.move (Operand.tmp 4), type := 3, pos := "ref.go:23", after := #[], guard := none } : Oper)) (v := ?vm7) rfl (by kernel_rfl) (by kernel_rfl) (by kernel_rfl) (fun _ _ _ h => h) (Or.inl ⟨by rfl, fun w hSw => ?hym7⟩) (by assumption) ?rm7
      case hym7 => (try dsimp only at hSw); go_simp; (try with_reducible rfl)
      (try simp only [Act.put, List.setIfInBounds_toArray, List.set_cons_zero, List.set_cons_succ])
      refine wpAnyH_take (i := 8) (oi := ({ dst := some 21, op := Op.indexAddr 125 (Operand.tmp 19) (Operand.tmp 20), type := 0, pos := "ref.go:23", after := #[{ on := 6, ground := Ground.data }, { on := 7, ground := Ground.data }], guard := none } : Oper)) (v := ?vm8) rfl (by kernel_rfl) (by kernel_rfl) (by kernel_rfl) (fun _ _ _ h => h) (Or.inl ⟨by rfl, fun w hSw => ?hym8⟩) (by assumption) ?rm8
      case hym8 => (try dsimp only at hSw); go_simp; (try with_reducible rfl)
      (try simp only [Act.put, List.setIfInBounds_toArray, List.set_cons_zero, List.set_cons_succ])
      refine wpAnyH_take (i := 9) (oi := ({ dst := some 22, op := Op.fieldAddr 124 (Operand.tmp 21) 1, type := 0, pos := "ref.go:23", after := #[{ on := 8, ground := Ground.data }], guard := none } : Oper)) (v := ?vm9) rfl (by kernel_rfl) (by kernel_rfl) (by kernel_rfl) (fun _ _ _ h => h) (Or.inl ⟨by rfl, fun w hSw => ?hym9⟩) (by assumption) ?rm9
      case hym9 => (try dsimp only at hSw); go_simp; (try with_reducible rfl)
      (try simp only [Act.put, List.setIfInBounds_toArray, List.set_cons_zero, List.set_cons_succ])
      refine wpAnyH_take (i := 10) (oi := ({ dst := some 23, op := Op.load 27 (Operand.tmp 22), type := 27, pos := "ref.go:23", after := #[{ on := 9, ground := Ground.data }], guard := none } : Oper)) (v := ?vm10) rfl (by kernel_rfl) (by kernel_rfl) (by kernel_rfl) (fun _ _ _ h => h) (Or.inl ⟨by rfl, fun w hSw => ?hym10⟩) (by assumption) ?rm10
      case hym10 => (try dsimp only at hSw); go_simp; (try with_reducible rfl)
      (try simp only [Act.put, List.setIfInBounds_toArray, List.set_cons_zero, List.set_cons_succ])
      refine wpAnyH_ready (rs := [11]) (by kernel_rfl) (by simp) ?_
      refine AllReadyH.cons (o := ({ dst := some 24, op := Op.call { callee := Callee.value (Operand.func 82), args := #[Operand.tmp 13, Operand.tmp 18, Operand.tmp 23], argTypes := #[61, 72, 27] }, type := 27, pos := "ref.go:23", after := #[{ on := 0, ground := Ground.data }, { on := 5, ground := Ground.data }, { on := 10, ground := Ground.data }], guard := none } : Oper)) rfl (fun K hK => ?_) AllReadyH.nil
      go_simp
      (refine (rstore_any _ w.heap.size w.heap.size s (newL A V k) k kd a was is (A k) (V k) RD.out hsz hA (by omega) hV).mono ?_; rintro e w2 ⟨rfl, hr2⟩)
      refine hK.out _ _ ?_ (fun hHeld => ?_)
      · exact ⟨cell_turns hHeld.1 (show Turns (fun j => j = w.heap.size) _ _ from hr2.choose_spec.2.2) LBR.out, cell_turns hHeld.2 (show Turns (fun j => j = w.heap.size) _ _ from hr2.choose_spec.2.2) LBR.out⟩
      clear hK K
      (try simp only [Act.put, List.setIfInBounds_toArray, List.set_cons_zero, List.set_cons_succ])
      refine wpAnyH_done (by kernel_rfl) ?_ _
      obtain ⟨s', hr3, _, ht3⟩ := hr2
      have hbb : Below w.heap.size w w2 := (HB.out.drew).trans (ht3.below hsz (fun j hj e => by omega))
      have HR3 := Lib.hid hr3; have HBB := Lib.hid hbb
      clear hr3 ht3 hbb d0 d1
      go_wp2_with fail
      go_roundg (n - (k + 1))
      case measure => omega
      case rel => exact ⟨k + 1, s', _, _, _, _, by omega, rfl, by go_num, by rw [HL.out]; exact HR3.out, HBB.out⟩
    · obtain rfl : k = n := by omega
      obtain ⟨p0, cap, rfl, _⟩ := row_slice HST.out.own
      have e0 : wr.cell? ⟨w.heap.size, 0, none⟩ = some (.slice p0 (newL A V k).length cap) := cell_row HST.out.row 0
      go_wp2_with fail
      go_ret
      refine ⟨wr.heap.size, .slice p0 (newL A V k).length cap, rfl, HB.out.size, ⟨HST.out.good, heap_alloc_new wr _, HST.out.own.alloc _, fun e => ?_⟩, HB.out.alloc HB.out.size _⟩
      have := (HST.out.own.lt _ e).2
      omega
end Go.Proofs.YtdodloannlfnlaaGreat.S2
namespace Go.Proofs.YtdodloannlfnlaaGreat.S12
open Go.Proofs.YtdodloannlfnlaaGreat Go.Proofs.YtdodloannlfnlaaGreat.S11
open Go.RowKit

def emptyP : Part := ⟨fun _ => True, fun _ => False, fun _ _ _ h => h.elim, fun _ _ _ _ _ _ => trivial⟩
def R7 : Array Oper := #[{ dst := some 19, op := Op.build 124 #[(0, Operand.const (Value.int IntKind.u32 0)), (1, Operand.const (Value.int IntKind.u64 2))], type := 124, pos := "ref.go:40", after := #[], guard := none }, { dst := some 20, op := Op.buildSlice 125 1 #[(0, Operand.tmp 19)], type := 125, pos := "ref.go:40", after := #[{ on := 0, ground := Ground.data }], guard := none }, { dst := some 21, op := Op.call { callee := Callee.value (Operand.func 37), args := #[Operand.tmp 20], argTypes := #[125] }, type := 61, pos := "ref.go:40", after := #[{ on := 1, ground := Ground.data }], guard := none }, { dst := some 22, op := Op.fieldAddr 48 (Operand.tmp 1) 2, type := 0, pos := "ref.go:40", after := #[], guard := none }, { dst := some 23, op := Op.load 28 (Operand.tmp 22), type := 28, pos := "ref.go:40", after := #[{ on := 3, ground := Ground.data }], guard := none }, { dst := some 24, op := Op.fieldAddr 48 (Operand.tmp 1) 1, type := 0, pos := "ref.go:40", after := #[], guard := none }, { dst := some 25, op := Op.load 27 (Operand.tmp 24), type := 27, pos := "ref.go:40", after := #[{ on := 5, ground := Ground.data }], guard := none }, { dst := some 26, op := Op.call { callee := Callee.value (Operand.func 38), args := #[Operand.tmp 23, Operand.tmp 25], argTypes := #[28, 27] }, type := 62, pos := "ref.go:40", after := #[{ on := 4, ground := Ground.data }, { on := 6, ground := Ground.data }, { on := 2, ground := Ground.chain }], guard := none }, { dst := some 27, op := Op.build 113 #[], type := 113, pos := "ref.go:40", after := #[], guard := none }, { dst := some 28, op := Op.box 113 (Operand.tmp 27), type := 63, pos := "ref.go:40", after := #[{ on := 8, ground := Ground.data }], guard := none }, { dst := some 29, op := Op.build 130 #[], type := 130, pos := "ref.go:40", after := #[], guard := none }, { dst := some 30, op := Op.box 130 (Operand.tmp 29), type := 64, pos := "ref.go:40", after := #[{ on := 10, ground := Ground.data }], guard := none }, { dst := some 31, op := Op.call { callee := Callee.value (Operand.func 39), args := #[Operand.const (Value.int IntKind.u64 0)], argTypes := #[27] }, type := 65, pos := "ref.go:40", after := #[{ on := 7, ground := Ground.chain }], guard := none }, { dst := some 32, op := Op.build 104 #[], type := 104, pos := "ref.go:40", after := #[], guard := none }, { dst := some 33, op := Op.box 104 (Operand.tmp 32), type := 66, pos := "ref.go:40", after := #[{ on := 13, ground := Ground.data }], guard := none }, { dst := some 34, op := Op.fieldAddr 48 (Operand.tmp 1) 0, type := 0, pos := "ref.go:40", after := #[], guard := none }, { dst := some 35, op := Op.load 3 (Operand.tmp 34), type := 3, pos := "ref.go:40", after := #[{ on := 15, ground := Ground.data }], guard := none }, { dst := some 36, op := Op.build 68 #[(0, Operand.tmp 21), (1, Operand.tmp 26), (2, Operand.tmp 28), (3, Operand.tmp 30), (4, Operand.tmp 31), (5, Operand.tmp 33), (6, Operand.tmp 35)], type := 68, pos := "ref.go:40", after := #[{ on := 2, ground := Ground.data }, { on := 7, ground := Ground.data }, { on := 9, ground := Ground.data }, { on := 11, ground := Ground.data }, { on := 12, ground := Ground.data }, { on := 14, ground := Ground.data }, { on := 16, ground := Ground.data }], guard := none }, { dst := some 37, op := Op.box 68 (Operand.tmp 36), type := 23, pos := "ref.go:40", after := #[{ on := 17, ground := Ground.data }], guard := none }, { dst := some 4, op := Op.assign (Operand.tmp 37), type := 23, pos := "ref.go:40", after := #[{ on := 18, ground := Ground.data }, { on := 12, ground := Ground.chain }, { on := 0, ground := Ground.phase }, { on := 1, ground := Ground.phase }, { on := 2, ground := Ground.phase }, { on := 3, ground := Ground.phase }, { on := 4, ground := Ground.phase }, { on := 5, ground := Ground.phase }, { on := 6, ground := Ground.phase }, { on := 7, ground := Ground.phase }, { on := 8, ground := Ground.phase }, { on := 9, ground := Ground.phase }, { on := 10, ground := Ground.phase }, { on := 11, ground := Ground.phase }, { on := 12, ground := Ground.phase }, { on := 13, ground := Ground.phase }, { on := 14, ground := Ground.phase }, { on := 15, ground := Ground.phase }, { on := 16, ground := Ground.phase }, { on := 17, ground := Ground.phase }, { on := 18, ground := Ground.phase }], guard := none }]
def L7 (c : Nat) (b0 b1 b2 : Bool) : Array Bool := #[true, decide (1 ≤ c), decide (2 ≤ c), true, true, true, true, decide (3 ≤ c), true, b0, true, b1, decide (4 ≤ c), true, b2, true, true, decide (5 ≤ c), decide (6 ≤ c), decide (7 ≤ c)]
noncomputable def F7 (spin : Int) (most n c : Nat) (A : Option Addr) (X : Nat) (x4 x20 x21 x26 x28 x30 x31 x33 x36 x37 : Value) : Act := { tmps := #[.agg #[.int .i64 spin, .int .u64 (most : Int), .slice A n c], .pointer (some ⟨X, 0, none⟩), .pointer none, .int .i64 0, x4, .pointer (some ⟨X, 0, none⟩), .int .i64 spin, .bool false, .bool false, .pointer (some ⟨X, 0, none⟩), .int .i64 spin, .bool false, .bool false, .bool false, .pointer (some ⟨X, 2, none⟩), .slice A n c, .int .i64 (n : Int), .bool false, .bool false, .agg #[.int .u32 0, .int .u64 2], x20, x21, .pointer (some ⟨X, 2, none⟩), .slice A n c, .pointer (some ⟨X, 1, none⟩), .int .u64 (most : Int), x26, .agg Tryz.zeroCells113, x28, .agg Tryz.zeroCells130, x30, x31, .agg #[.slice none 0 0], x33, .pointer (some ⟨X, 0, none⟩), .int .i64 spin, x36, x37, undef], defers := [] }
section
variable (c : Nat) (b0 b1 b2 : Bool)
theorem ready7 (hc : c ≤ 4) : Region.ready .any R7 (L7 c b0 b1 b2) = (if c = 0 then [1] else []) ++ (if c = 1 then [2] else []) ++ (if c = 2 then [7] else []) ++ (if b0 then [] else [9]) ++ (if b1 then [] else [11]) ++ (if c = 3 then [12] else []) ++ (if b2 then [] else [14]) ++ (if c = 4 ∧ b0 = true ∧ b1 = true ∧ b2 = true then [17] else []) := by
  have h : c = 0 ∨ c = 1 ∨ c = 2 ∨ c = 3 ∨ c = 4 := by omega
  rcases h with rfl | rfl | rfl | rfl | rfl <;> cases b0 <;> cases b1 <;> cases b2 <;> decide +kernel
theorem set1 : (L7 0 b0 b1 b2).setIfInBounds 1 true = L7 1 b0 b1 b2 := rfl
theorem set2 : (L7 1 b0 b1 b2).setIfInBounds 2 true = L7 2 b0 b1 b2 := rfl
theorem set7 : (L7 2 b0 b1 b2).setIfInBounds 7 true = L7 3 b0 b1 b2 := rfl
theorem set12 : (L7 3 b0 b1 b2).setIfInBounds 12 true = L7 4 b0 b1 b2 := rfl
theorem set9 : (L7 c false b1 b2).setIfInBounds 9 true = L7 c true b1 b2 := rfl
theorem set11 : (L7 c b0 false b2).setIfInBounds 11 true = L7 c b0 true b2 := rfl
theorem set14 : (L7 c b0 b1 false).setIfInBounds 14 true = L7 c b0 b1 true := rfl
end
def wordsO : Obj := .cells #[.int .u32 0, .int .u64 2] 124
def sW (on : Bool) (x : Value) (q : Part) : Prop := if on then (∃ B, x = .slice (some ⟨B, 0, none⟩) 1 1 ∧ q = blockP B wordsO) else q = emptyP
def sC (on : Bool) (x : Value) (q : Part) : Prop := if on then (∃ b B s, x = .pointer (some ⟨B, 0, none⟩) ∧ q = rcellsP b B s L02 0 0 0 0 0) else q = emptyP
def sK (most : Nat) (D : List Nat) (on : Bool) (x : Value) (q : Part) : Prop := if on then (∃ b B s, x = .pointer (some ⟨B, 0, none⟩) ∧ q = rclockP b B 0 most s (D.take 65536)) else q = emptyP
def sT (on : Bool) (x : Value) (q : Part) : Prop := if on then (∃ b own, q = rtablesP b own x (S10.M0 0)) else q = emptyP
def sB (T : Nat) (cs : Array Value) (on : Bool) (x : Value) (q : Part) : Prop := if on then (∃ B, x = .pointer (some ⟨B, 0, none⟩) ∧ q = blockP B (.cells cs T)) else q = emptyP
structure G7 (w : World) (X : Nat) (cfg : Obj) (most : Nat) (D : List Nat) (c : Nat) (b0 b1 b2 : Bool) (x20 x21 x26 x28 x30 x31 x33 : Value) (q0 qc qk qt qp ql qn : Part) : Prop where
  ps : Parts w X [blockP X cfg, q0, qc, qk, qt, qp, ql, qn]
  h0 : sW (decide (1 ≤ c)) x20 q0
  hc : sC (decide (2 ≤ c)) x21 qc
  hk : sK most D (decide (3 ≤ c)) x26 qk
  ht : sT (decide (4 ≤ c)) x31 qt
  hp : sB 113 Tryz.zeroCells113 b0 x28 qp
  hl : sB 130 Tryz.zeroCells130 b1 x30 ql
  hn : sB 104 #[.slice none 0 0] b2 x33 qn
theorem Parts.fill {w w' : World} {base i : Nat} {l : List Part} (h : Parts w base l) (hi : l[i]? = some emptyP) (q : Part) (b : Below w.heap.size w w') (hq : q.ok w') (hf : ∀ k, q.fp k → w.heap.size ≤ k) : Parts w' base (l.set i q) :=
  (h.turn hi q hq (Turns.of_below b) (fun k e => .inr (hf k e))).1
end Go.Proofs.YtdodloannlfnlaaGreat.S12
