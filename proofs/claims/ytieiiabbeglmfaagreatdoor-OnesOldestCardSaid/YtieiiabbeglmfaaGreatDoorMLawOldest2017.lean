/- Texts of this seat, one behind the other. -/
import Derived.Test.YtieiiabbeglmfaaGreatDoorMLawOldest201
import Derived.Test.YtieiiabbeglmfaaGreatDoorMLawOldest2016
set_option linter.unusedVariables false
set_option linter.unusedSimpArgs false
set_option linter.unusedVariables false
set_option linter.unusedSimpArgs false
namespace Go.Proofs.YtieiiabbeglmfaaGreatDoor.S12
set_option maxRecDepth 100000
set_option maxHeartbeats 16000000
open Go.Proofs.YtieiiabbeglmfaaGreatDoor Go.Proofs.YtieiiabbeglmfaaGreatDoor.S11
open Go.RowKit
def okC (spin : Int) (n : Nat) : Bool := decide (0 ≤ spin) && (decide (spin ≤ 16) && decide ((n : Int) ≤ 65536))
theorem mayBe_any (spin most : Int) (n c : Nat) (A : Option Addr) (w : World) : Calls Tryz.prog 82 #[.agg #[.int .i64 spin, .int .u64 most, .slice A n c]] w fun e w' => e = .returned (.bool (okC spin n)) ∧ Below w.heap.size w w' := by
  have HB : Hid (Below w.heap.size w (w.alloc (.cells #[.int .i64 spin, .int .u64 most, .slice A n c] 60))) := Lib.hid ((Below.refl _ _).alloc (Nat.le_refl _) _)
  unfold okC
  cases h1 : decide (0 ≤ spin)
  · go_enter Tryz.func82, Tryz.ntmps82
    go_wp2
    go_ret
    exact ⟨rfl, HB.out⟩
  · cases h2 : decide (spin ≤ 16)
    · go_enter Tryz.func82, Tryz.ntmps82
      go_wp2
      go_ret
      exact ⟨rfl, HB.out⟩
    · cases h3 : decide ((n : Int) ≤ 65536)
      · go_enter Tryz.func82, Tryz.ntmps82
        go_wp2
        go_ret
        exact ⟨rfl, HB.out⟩
      · go_enter Tryz.func82, Tryz.ntmps82
        go_wp2
        go_ret
        exact ⟨rfl, HB.out⟩
structure At0 (X : Wm) (spin : Int) (most : Nat) (D : List Nat) : Prop where
  L : X.L = L02
  n : X.n = 0
  k : X.k = 0
  a : X.a = 0
  was : X.was = 0
  is : X.is = 0
  T : X.T = 0
  most : X.most = most
  D : X.D = D
  pf : X.pf = fun _ => S4.pk0
  pn : X.pn = 0
  pk : X.pk = 0
  pp : X.pp = 0
  lk : X.lk = S5.S0
  tn : X.tn = 1
  tM : X.tM = S10.M0 0
  nD : X.nD = []
  sp : X.sp = spin
  tk : X.tk = fun _ => 0
def NewW (w w' : World) (spin : Int) (most : Nat) (D : List Nat) (e : Ending) : Prop := ∃ X, e = .returned (.tuple #[Pw X.wB, .int .i64 0]) ∧ PW w' w.heap.size X ∧ At0 X spin most D ∧ Below w.heap.size w w'
theorem new_yes {w : World} (spin : Int) (most n c : Nat) (A : Option Addr) {D : List Nat} (h : okC spin n = true)
    (hck : ∀ W, Below w.heap.size w W → Calls Tryz.prog 84 #[.slice A n c, .int .u64 (most : Int)] W (S3.Made W 0 most D)) :
    Calls Tryz.prog 32 #[.agg #[.int .i64 spin, .int .u64 (most : Int), .slice A n c]] w fun e w' => NewW w w' spin most D e := by
  have hb : Below w.heap.size w (w.alloc (.cells #[.int .i64 spin, .int .u64 (most : Int), .slice A n c] 60)) := (Below.refl _ _).alloc (Nat.le_refl _) _
  have HB := Lib.hid hb
  have HM := Lib.hid (mayBe_any spin (most : Int) n c A)
  rw [h] at HM
  have HCK := Lib.hid hck
  have hnew := heap_alloc_new w (.cells #[.int .i64 spin, .int .u64 (most : Int), .slice A n c] 60)
  have c0 := cell_row hnew 0; have c1 := cell_row hnew 1; have c2 := cell_row hnew 2
  obtain ⟨B0, hB0⟩ : ∃ B0, B0 = w.heap.size := ⟨_, rfl⟩
  rw [← hB0] at c0 c1 c2
  simp only [List.getElem?_toArray, List.getElem?_cons_zero, List.getElem?_cons_succ] at c0 c1 c2
  have HB0 := Lib.hid hB0
  clear hb hnew h hck hB0
  go_enter Tryz.func32, Tryz.ntmps32
  go_upto_region 1 with (fail)
  rw [← HB0.out]
  generalize w.alloc (.cells #[.int .i64 spin, .int .u64 (most : Int), .slice A n c] 60) = wa at *
  go_upto_region 3 with (go_at_call 82; refine (HM.out _).mono ?_; rintro e wb ⟨rfl, hb1⟩)
  have HBW : Hid (Below w.heap.size w wb) := Lib.hid (HB.out.trans (hb1.mono HB.out.size))
  have HC : Hid (∀ W, Below wb.heap.size wb W → W.cell? ⟨B0, 0, none⟩ = some (.int .i64 spin) ∧ W.cell? ⟨B0, 1, none⟩ = some (.int .u64 (most : Int)) ∧ W.cell? ⟨B0, 2, none⟩ = some (.slice A n c)) := Lib.hid (fun W q => ⟨bcell (hb1.trans (q.mono hb1.size)) c0, bcell (hb1.trans (q.mono hb1.size)) c1, bcell (hb1.trans (q.mono hb1.size)) c2⟩)
  clear hb1 c0 c1 c2
  refine wp_region_held_drew (S := fun w' => w'.cell? ⟨B0, 0, none⟩ = some (.int .i64 spin) ∧ w'.cell? ⟨B0, 1, none⟩ = some (.int .u64 (most : Int)) ∧ w'.cell? ⟨B0, 2, none⟩ = some (.slice A n c)) (by kernel_rfl) ?_ (fun hHeld => ?_)
  · exact HC.out _ ((Below.refl _ _).drew)
  refine tA 0 ⟨some 8, .build 199 #[(0, .const (.int .u32 0)), (1, .const (.int .u64 2))], 199, "worlds.go:42", #[], none⟩ ?vax1 ?rax1
  (try simp only [Act.put, tC, tD, tE])
  refine tA 3 ⟨some 11, .fieldAddr 60 (.tmp 1) 2, 0, "worlds.go:42", #[], none⟩ ?vax2 ?rax2
  (try simp only [Act.put, tC, tD, tE])
  refine tA 4 ⟨some 12, .load 58 (.tmp 11), 58, "worlds.go:42", #[⟨3, .data⟩], none⟩ ?vax3 ?rax3
  (try simp only [Act.put, tC, tD, tE])
  refine tA 5 ⟨some 13, .fieldAddr 60 (.tmp 1) 1, 0, "worlds.go:42", #[], none⟩ ?vax4 ?rax4
  (try simp only [Act.put, tC, tD, tE])
  refine tA 6 ⟨some 14, .load 23 (.tmp 13), 23, "worlds.go:42", #[⟨5, .data⟩], none⟩ ?vax5 ?rax5
  (try simp only [Act.put, tC, tD, tE])
  refine tA 12 ⟨some 20, .fieldAddr 60 (.tmp 1) 0, 0, "worlds.go:42", #[], none⟩ ?vax6 ?rax6
  (try simp only [Act.put, tC, tD, tE])
  refine tA 13 ⟨some 21, .load 3 (.tmp 20), 3, "worlds.go:42", #[⟨12, .data⟩], none⟩ ?vax7 ?rax7
  (try simp only [Act.put, tC, tD, tE])
  refine wpAnyH_ready (rs := [1]) (by kernel_rfl) (by simp) ?_
  refine AllReadyH.cons (o := ⟨some 9, .buildSlice 282 1 #[(0, .tmp 8)], 282, "worlds.go:42", #[⟨0, .data⟩], none⟩) rfl (fun Kq hKq => ?_) AllReadyH.nil
  go_simp
  have R1 : Hid (Below w.heap.size w (wb.alloc (.cells #[.int .u32 0, .int .u64 2] 199)).drew) := Lib.hid (HBW.out.alloc HBW.out.size _).drew
  have C1 : Hid ((wb.alloc (.cells #[.int .u32 0, .int .u64 2] 199)).drew.heap[wb.heap.size]? = some (.cells #[.int .u32 0, .int .u64 2] 199)) := Lib.hid (heap_alloc_new wb _)
  have S1 : Hid (∀ W, Below (wb.alloc (.cells #[.int .u32 0, .int .u64 2] 199)).drew.heap.size (wb.alloc (.cells #[.int .u32 0, .int .u64 2] 199)).drew W → W.cell? ⟨B0, 0, none⟩ = some (.int .i64 spin) ∧ W.cell? ⟨B0, 1, none⟩ = some (.int .u64 (most : Int)) ∧ W.cell? ⟨B0, 2, none⟩ = some (.slice A n c)) := Lib.hid (fun W q => HC.out W ((((Below.refl _ wb).alloc (Nat.le_refl _) _).drew).trans (q.mono (by simp))))
  have hnb := C1.out
  have HSZ : Hid (wb.heap.size < (wb.alloc (.cells #[.int .u32 0, .int .u64 2] 199)).drew.heap.size) := Lib.hid (Array.getElem?_eq_some_iff.1 hnb).1
  clear hnb HC
  generalize (wb.alloc (.cells #[.int .u32 0, .int .u64 2] 199)).drew = w1 at *
  generalize wb.heap.size = bs at *
  have HIN : Hid (S2.WIn w1 w1.heap.size (some ⟨bs, 0, none⟩) 1 (fun _ => 0) (fun _ => 2)) := Lib.hid (fun _ => ⟨bs, 0, rfl, HSZ.out, fun i hi => (show ∀ i, i = 0 → (w1.cell? ⟨bs, 0 + i * 2, none⟩ = some (.int .u32 (((fun _ => 0) i : Nat) : Int)) ∧ w1.cell? ⟨bs, 0 + i * 2 + 1, none⟩ = some (.int .u64 (((fun _ => 2) i : Nat) : Int))) from fun i e => by rw [e]; exact ⟨cell_row C1.out 0, cell_row C1.out 1⟩) i (by omega)⟩)
  have PP0 : Hid (Parts w1 w.heap.size []) := Lib.hid ((parts_nil w).new R1.out)
  refine hKq.out _ _ ?_ (fun hHeld => ?_)
  · exact S1.out _ (Below.refl _ _)
  clear hKq Kq
  (try simp only [Act.put, tC, tD, tE])
  refine wpAnyH_ready (rs := [2]) (by kernel_rfl) (by simp) ?_
  refine AllReadyH.cons (o := ⟨some 10, .call ⟨.value (.func 83), #[.tmp 9], #[282]⟩, 39, "worlds.go:44", #[⟨1, .data⟩], none⟩) rfl (fun Kq hKq => ?_) AllReadyH.nil
  go_simp
  (refine (S2.new_any (some ⟨bs, 0, none⟩) 1 1 (fun _ => 0) (fun _ => 2) (by omega) (fun i _ => ⟨by simp, by simp⟩) w1 HIN.out).mono ?_; rintro e w2 ⟨rfl, hst, hb⟩)
  obtain ⟨M, hcm, hmm⟩ := hst.own
  have PP1 : Hid (Parts w2 w.heap.size [cellsP w1.heap.size M L02 0 0 0 0 0]) := Lib.hid (PP0.out.push (cellsP w1.heap.size M L02 0 0 0 0 0) (hb) hcm (fun k e => Or.elim (show k = w1.heap.size ∨ M = some k from e) (fun e => Nat.le_of_eq e.symm) (fun e => hmm k e)))
  have R2 : Hid (Below w.heap.size w w2) := Lib.hid (R1.out.trans (hb.mono R1.out.size))
  have B2 : Hid (Below w1.heap.size w1 w2) := Lib.hid (hb)
  clear hb hst hcm hmm
  refine hKq.out _ _ ?_ (fun hHeld => ?_)
  · exact S1.out _ B2.out
  clear hKq Kq
  (try simp only [Act.put, tC, tD, tE])
  refine wpAnyH_ready (rs := [7]) (by kernel_rfl) (by simp) ?_
  refine AllReadyH.cons (o := ⟨some 15, .call ⟨.value (.func 84), #[.tmp 12, .tmp 14], #[58, 23]⟩, 40, "worlds.go:45", #[⟨4, .data⟩, ⟨6, .data⟩, ⟨2, .chain⟩], none⟩) rfl (fun Kq hKq => ?_) AllReadyH.nil
  go_simp
  (refine (HCK.out w2 R2.out).mono ?_; rintro e w3 ⟨kB, ks, rfl, hkl, hcl, hb⟩)
  have PP2 : Hid (Parts w3 w.heap.size [cellsP w1.heap.size M L02 0 0 0 0 0, clockP w2.heap.size kB 0 most ks D]) := Lib.hid (PP1.out.push (clockP w2.heap.size kB 0 most ks D) (hb) hcl (fun k e => Or.elim (show k = kB ∨ ks.ownBlock = some k from e) (fun e => by rw [e]; exact hkl) (fun e => (hcl.own.lt k e).1)))
  have R3 : Hid (Below w.heap.size w w3) := Lib.hid (R2.out.trans (hb.mono R2.out.size))
  have B3 : Hid (Below w1.heap.size w1 w3) := Lib.hid (B2.out.trans (hb.mono B2.out.size))
  clear hb hkl hcl
  refine hKq.out _ _ ?_ (fun hHeld => ?_)
  · exact S1.out _ B3.out
  clear hKq Kq
  (try simp only [Act.put, tC, tD, tE])
  refine wpAnyH_ready (rs := [8]) (by kernel_rfl) (by simp) ?_
  refine AllReadyH.cons (o := ⟨some 16, .call ⟨.value (.func 85), #[], #[]⟩, 41, "worlds.go:46", #[⟨7, .chain⟩], none⟩) rfl (fun Kq hKq => ?_) AllReadyH.nil
  go_simp
  (refine (S4.pnew_any w3).mono ?_; rintro e w4 ⟨rfl, hpk, hb⟩)
  have PP3 : Hid (Parts w4 w.heap.size [cellsP w1.heap.size M L02 0 0 0 0 0, clockP w2.heap.size kB 0 most ks D, permitsP w3.heap.size (fun _ => S4.pk0) ((0 : Nat) : Int) 0 0]) := Lib.hid (PP2.out.push (permitsP w3.heap.size (fun _ => S4.pk0) ((0 : Nat) : Int) 0 0) (hb) hpk (fun k e => Nat.le_of_eq (show k = w3.heap.size from e).symm))
  have R4 : Hid (Below w.heap.size w w4) := Lib.hid (R3.out.trans (hb.mono R3.out.size))
  have B4 : Hid (Below w1.heap.size w1 w4) := Lib.hid (B3.out.trans (hb.mono B3.out.size))
  clear hb hpk
  refine hKq.out _ _ ?_ (fun hHeld => ?_)
  · exact S1.out _ B4.out
  clear hKq Kq
  (try simp only [Act.put, tC, tD, tE])
  refine wpAnyH_ready (rs := [9]) (by kernel_rfl) (by simp) ?_
  refine AllReadyH.cons (o := ⟨some 17, .call ⟨.value (.func 86), #[], #[]⟩, 42, "worlds.go:47", #[⟨8, .chain⟩], none⟩) rfl (fun Kq hKq => ?_) AllReadyH.nil
  go_simp
  (refine (S5.new_any w4).mono ?_; rintro e w5 ⟨rfl, hlk, hb⟩)
  have PP4 : Hid (Parts w5 w.heap.size [cellsP w1.heap.size M L02 0 0 0 0 0, clockP w2.heap.size kB 0 most ks D, permitsP w3.heap.size (fun _ => S4.pk0) ((0 : Nat) : Int) 0 0, linksP w4.heap.size S5.S0]) := Lib.hid (PP3.out.push (linksP w4.heap.size S5.S0) (hb) hlk (fun k e => Nat.le_of_eq (show k = w4.heap.size from e).symm))
  have R5 : Hid (Below w.heap.size w w5) := Lib.hid (R4.out.trans (hb.mono R4.out.size))
  have B5 : Hid (Below w1.heap.size w1 w5) := Lib.hid (B4.out.trans (hb.mono B4.out.size))
  clear hb hlk
  refine hKq.out _ _ ?_ (fun hHeld => ?_)
  · exact S1.out _ B5.out
  clear hKq Kq
  (try simp only [Act.put, tC, tD, tE])
  refine wpAnyH_ready (rs := [10]) (by kernel_rfl) (by simp) ?_
  refine AllReadyH.cons (o := ⟨some 18, .call ⟨.value (.func 87), #[.const (.int .u64 0)], #[23]⟩, 43, "worlds.go:48", #[⟨9, .chain⟩], none⟩) rfl (fun Kq hKq => ?_) AllReadyH.nil
  go_simp
  (refine (S10.new_any 0 w5).mono ?_; rintro e w6 ⟨ts, tO, rfl, hts, hb⟩)
  obtain ⟨tB, hsx⟩ : ∃ tB, ts = Pw tB := by
    obtain ⟨sb, _, _, _, hf⟩ := hts
    exact ⟨sb, hf.hs⟩
  subst hsx
  have PP5 : Hid (Parts w6 w.heap.size [cellsP w1.heap.size M L02 0 0 0 0 0, clockP w2.heap.size kB 0 most ks D, permitsP w3.heap.size (fun _ => S4.pk0) ((0 : Nat) : Int) 0 0, linksP w4.heap.size S5.S0, tablesP w5.heap.size tO (Pw tB) 1 (S10.M0 0)]) := Lib.hid (PP4.out.push (tablesP w5.heap.size tO (Pw tB) 1 (S10.M0 0)) (hb) hts (fun k e => (hts.fp e).1))
  have R6 : Hid (Below w.heap.size w w6) := Lib.hid (R5.out.trans (hb.mono R5.out.size))
  have B6 : Hid (Below w1.heap.size w1 w6) := Lib.hid (B5.out.trans (hb.mono B5.out.size))
  clear hb hts
  refine hKq.out _ _ ?_ (fun hHeld => ?_)
  · exact S1.out _ B6.out
  clear hKq Kq
  (try simp only [Act.put, tC, tD, tE])
  refine wpAnyH_ready (rs := [11]) (by kernel_rfl) (by simp) ?_
  refine AllReadyH.cons (o := ⟨some 19, .call ⟨.value (.func 88), #[], #[]⟩, 44, "worlds.go:49", #[⟨10, .chain⟩], none⟩) rfl (fun Kq hKq => ?_) AllReadyH.nil
  go_simp
  (refine (S11.new_any w6).mono ?_; rintro e w7 ⟨rfl, hnl, hb⟩)
  have PP6 : Hid (Parts w7 w.heap.size [cellsP w1.heap.size M L02 0 0 0 0 0, clockP w2.heap.size kB 0 most ks D, permitsP w3.heap.size (fun _ => S4.pk0) ((0 : Nat) : Int) 0 0, linksP w4.heap.size S5.S0, tablesP w5.heap.size tO (Pw tB) 1 (S10.M0 0), notesP 304 .u8 w6.heap.size w6.heap.size (.slice none 0 0) []]) := Lib.hid (PP5.out.push (notesP 304 .u8 w6.heap.size w6.heap.size (.slice none 0 0) []) (hb) hnl (fun k e => Or.elim (show k = w6.heap.size ∨ (Value.slice none 0 0).ownBlock = some k from e) (fun e => Nat.le_of_eq e.symm) (fun e => by cases e)))
  have R7 : Hid (Below w.heap.size w w7) := Lib.hid (R6.out.trans (hb.mono R6.out.size))
  have B7 : Hid (Below w1.heap.size w1 w7) := Lib.hid (B6.out.trans (hb.mono B6.out.size))
  clear hb hnl
  refine hKq.out _ _ ?_ (fun hHeld => ?_)
  · exact S1.out _ B7.out
  clear hKq Kq
  (try simp only [Act.put, tC, tD, tE])
  refine tA 14 ⟨some 22, .build 47 #[(0, .tmp 10), (1, .tmp 15), (2, .tmp 16), (3, .tmp 17), (4, .tmp 18), (5, .tmp 19), (6, .tmp 21)], 47, "worlds.go:42", #[⟨2, .data⟩, ⟨7, .data⟩, ⟨8, .data⟩, ⟨9, .data⟩, ⟨10, .data⟩, ⟨11, .data⟩, ⟨13, .data⟩], none⟩ ?vax8 ?rax8
  (try simp only [Act.put, tC, tD, tE])
  refine wpAnyH_ready (rs := [15]) (by kernel_rfl) (by simp) ?_
  refine AllReadyH.cons (o := ⟨some 23, .box 47 (.tmp 22), 24, "worlds.go:42", #[⟨14, .data⟩], none⟩) rfl (fun Kq hKq => ?_) AllReadyH.nil
  go_simp
  have HX : Hid (PW (w7.alloc (.cells (Wm.cs { cB := w1.heap.size, cM := M, L := L02, n := 0, k := 0, a := 0, was := 0, is := 0, kb := w2.heap.size, kB := kB, T := 0, most := most, ks := ks, D := D, pB := w3.heap.size, pf := fun _ => S4.pk0, pn := 0, pk := 0, pp := 0, lB := w4.heap.size, lk := S5.S0, tb := w5.heap.size, tO := tO, ts := Pw tB, tn := 1, tM := S10.M0 0, nb := w6.heap.size, nB := w6.heap.size, ns := .slice none 0 0, nD := [], wB := w7.heap.size, sp := spin, tk := fun _ => 0 }) 47)) w.heap.size { cB := w1.heap.size, cM := M, L := L02, n := 0, k := 0, a := 0, was := 0, is := 0, kb := w2.heap.size, kB := kB, T := 0, most := most, ks := ks, D := D, pB := w3.heap.size, pf := fun _ => S4.pk0, pn := 0, pk := 0, pp := 0, lB := w4.heap.size, lk := S5.S0, tb := w5.heap.size, tO := tO, ts := Pw tB, tn := 1, tM := S10.M0 0, nb := w6.heap.size, nB := w6.heap.size, ns := .slice none 0 0, nD := [], wB := w7.heap.size, sp := spin, tk := fun _ => 0 }) := Lib.hid (PP6.out.push (blockP w7.heap.size (.cells (Wm.cs { cB := w1.heap.size, cM := M, L := L02, n := 0, k := 0, a := 0, was := 0, is := 0, kb := w2.heap.size, kB := kB, T := 0, most := most, ks := ks, D := D, pB := w3.heap.size, pf := fun _ => S4.pk0, pn := 0, pk := 0, pp := 0, lB := w4.heap.size, lk := S5.S0, tb := w5.heap.size, tO := tO, ts := Pw tB, tn := 1, tM := S10.M0 0, nb := w6.heap.size, nB := w6.heap.size, ns := .slice none 0 0, nD := [], wB := w7.heap.size, sp := spin, tk := fun _ => 0 }) 47)) (below1 _ _) (heap_alloc_new _ _) (fun k e => Nat.le_of_eq (show k = w7.heap.size from e).symm))
  have HXB : Hid (Below w.heap.size w (w7.alloc (.cells (Wm.cs { cB := w1.heap.size, cM := M, L := L02, n := 0, k := 0, a := 0, was := 0, is := 0, kb := w2.heap.size, kB := kB, T := 0, most := most, ks := ks, D := D, pB := w3.heap.size, pf := fun _ => S4.pk0, pn := 0, pk := 0, pp := 0, lB := w4.heap.size, lk := S5.S0, tb := w5.heap.size, tO := tO, ts := Pw tB, tn := 1, tM := S10.M0 0, nb := w6.heap.size, nB := w6.heap.size, ns := .slice none 0 0, nD := [], wB := w7.heap.size, sp := spin, tk := fun _ => 0 }) 47))) := Lib.hid (R7.out.alloc R7.out.size _)
  have HXS : Hid (Below w1.heap.size w1 (w7.alloc (.cells (Wm.cs { cB := w1.heap.size, cM := M, L := L02, n := 0, k := 0, a := 0, was := 0, is := 0, kb := w2.heap.size, kB := kB, T := 0, most := most, ks := ks, D := D, pB := w3.heap.size, pf := fun _ => S4.pk0, pn := 0, pk := 0, pp := 0, lB := w4.heap.size, lk := S5.S0, tb := w5.heap.size, tO := tO, ts := Pw tB, tn := 1, tM := S10.M0 0, nb := w6.heap.size, nB := w6.heap.size, ns := .slice none 0 0, nD := [], wB := w7.heap.size, sp := spin, tk := fun _ => 0 }) 47))) := Lib.hid (B7.out.alloc B7.out.size _)
  have HXA : Hid (At0 { cB := w1.heap.size, cM := M, L := L02, n := 0, k := 0, a := 0, was := 0, is := 0, kb := w2.heap.size, kB := kB, T := 0, most := most, ks := ks, D := D, pB := w3.heap.size, pf := fun _ => S4.pk0, pn := 0, pk := 0, pp := 0, lB := w4.heap.size, lk := S5.S0, tb := w5.heap.size, tO := tO, ts := Pw tB, tn := 1, tM := S10.M0 0, nb := w6.heap.size, nB := w6.heap.size, ns := .slice none 0 0, nD := [], wB := w7.heap.size, sp := spin, tk := fun _ => 0 } spin most D) := Lib.hid ⟨rfl, rfl, rfl, rfl, rfl, rfl, rfl, rfl, rfl, rfl, rfl, rfl, rfl, rfl, rfl, rfl, rfl, rfl, rfl⟩
  unfold Wm.cs at HX HXB HXS
  dsimp only at HX HXB HXS
  rw [pcells_0] at HX HXB HXS
  (try dsimp only at HX HXB HXS)
  (try dsimp only at HXA)
  refine hKq.out _ _ ?_ (fun hHeld => ?_)
  · exact S1.out _ HXS.out
  clear hKq Kq
  (try simp only [Act.put, tC, tD, tE])
  refine tA 16 ⟨some 4, .assign (.tmp 23), 24, "worlds.go:42", #[⟨15, .data⟩, ⟨11, .chain⟩, ⟨0, .phase⟩, ⟨1, .phase⟩, ⟨2, .phase⟩, ⟨3, .phase⟩, ⟨4, .phase⟩, ⟨5, .phase⟩, ⟨6, .phase⟩, ⟨7, .phase⟩, ⟨8, .phase⟩, ⟨9, .phase⟩, ⟨10, .phase⟩, ⟨11, .phase⟩, ⟨12, .phase⟩, ⟨13, .phase⟩, ⟨14, .phase⟩, ⟨15, .phase⟩], none⟩ ?vax9 ?rax9
  (try simp only [Act.put, tC, tD, tE])
  refine wpAnyH_done (by kernel_rfl) ?_ _
  clear hHeld S1
  go_wp2_with fail
  go_ret2
  exact ⟨_, rfl, HX.out, HXA.out, HXB.out⟩
end Go.Proofs.YtieiiabbeglmfaaGreatDoor.S12
namespace Go.Proofs.YtieiiabbeglmfaaGreatDoor.S12
set_option maxRecDepth 100000
set_option maxHeartbeats 16000000
open Go.Proofs.YtieiiabbeglmfaaGreatDoor Go.Proofs.YtieiiabbeglmfaaGreatDoor.S11
open Go.RowKit
structure Nx (X X' : Wm) (dn dp : Nat) (F : List Nt) : Prop where
  wB : X'.wB = X.wB
  n : X'.n = X.n + dn
  pn : X'.pn = X.pn + dp
  nD : X'.nD = F
  tM : X'.tM = X.tM
  tn : X'.tn = X.tn
section
variable {w : World} {base : Nat} {X : Wm}
end
end Go.Proofs.YtieiiabbeglmfaaGreatDoor.S12
namespace Go.Proofs.YtieiiabbeglmfaaGreatDoor.S4
set_option maxRecDepth 100000
set_option maxHeartbeats 16000000
open Go.Proofs.YtieiiabbeglmfaaGreatDoor Go.Proofs.YtieiiabbeglmfaaGreatDoor.S11
open Go.RowKit
def parkK (x : Pk) : Pk := if x.p then pk0 else ⟨false, true, false, 0⟩
theorem take_any {w : World} {B : Nat} {f : Nat → Pk} {n kd pk : Int} (h : PkAt w B f n kd pk) {i : Nat} (hi : i < 128) :
    Calls Tryz.prog 306 #[Pt B, .int .i64 (i : Int)] w fun e w' => e = .returned (.bool (f i).p) ∧ PkAt w' B (if (f i).p then updP f i pk0 else f) n kd pk ∧ Turns (fun k => k = B) w w' ∧ w'.heap.size = w.heap.size := by
  have c0 := h.c0 i hi; have c1 := h.c1 i hi; have c2 := h.c2 i hi; have c3 := h.c3 i hi
  have z0 := h.fz (i * 4); have z1 := h.fz (i * 4 + 1); have z2 := h.fz (i * 4 + 2); have z3 := h.fz (i * 4 + 3)
  have h1 : (i : Int) < 128 := by omega
  have H := Lib.hid h
  cases hp : (f i).p
  · rw [hp] at c0
    clear h
    go_enter Tryz.func306, Tryz.ntmps306
    go_wp2_with fail
    go_ret
    exact ⟨rfl, H.out, Turns.refl _ _, rfl⟩
  · rw [hp] at c0
    clear h
    go_enter Tryz.func306, Tryz.ntmps306
    go_wp2_with fail
    go_ret
    refine ⟨rfl, H.out.setAll hi pk0, ?_, by simp [World.setCell]⟩
    exact (((((Turns.refl (fun k => k = B) w).setCell ⟨B, i * 4, none⟩ _ rfl).setCell ⟨B, i * 4 + 1, none⟩ _ rfl).setCell ⟨B, i * 4 + 2, none⟩ _ rfl).setCell ⟨B, i * 4 + 3, none⟩ _ rfl)
theorem park_b {w : World} {B : Nat} {f : Nat → Pk} {n kd pk : Int} (h : PkAt w B f n kd pk) (hn : 0 ≤ n ∧ n ≤ 1000000000) {i : Nat} (hi : i < 128) (b : Bool) (hb : (f i).p = b) :
    Calls Tryz.prog 305 #[Pt B, .int .i64 (i : Int)] w fun e w' => e = .returned (.int .u8 (if b then 1 else 0)) ∧ PSets w w' B (updP f i (parkK (f i))) (n + 1) 2 (i : Int) := by
  have hq := called_yes h hn 2 hi
  have HQ := Lib.hid hq
  have h1 : (i : Int) < 128 := by omega
  clear hq h hn
  go_enter Tryz.func305, Tryz.ntmps305
  go_upto_region 3 with (go_at_call 181; refine HQ.out.mono ?_; rintro e w1 ⟨rfl, hp, ht, hz⟩)
  have htk := take_any hp hi
  have HTK := Lib.hid htk; have HP := Lib.hid hp; have HT := Lib.hid ht; have HZ := Lib.hid hz
  clear htk hp ht hz
  cases b
  · have hp := hb
    clear hb
    rw [hp] at HTK
    go_upto_region 5 with (go_at_call 306; refine HTK.out.mono ?_; rintro e w2 ⟨rfl, hp2, ht2, hz2⟩)
    rw [if_neg (by decide)] at hp2
    have c0 := hp2.c0 i hi; have c1 := hp2.c1 i hi; have c2 := hp2.c2 i hi; have c3 := hp2.c3 i hi
    have z0 := hp2.fz (i * 4); have z1 := hp2.fz (i * 4 + 1); have z2 := hp2.fz (i * 4 + 2); have z3 := hp2.fz (i * 4 + 3)
    have HP2 := Lib.hid hp2; have HT2 := Lib.hid (HT.out.trans ht2 (fun _ _ e => e)); have HZ2 := Lib.hid (hz2.trans HZ.out)
    clear hp2 ht2 hz2 HP HT HZ HTK HQ
    have hk : parkK (f i) = ⟨false, true, false, 0⟩ := by unfold parkK; rw [hp]; rfl
    have HK := Lib.hid hk
    clear hk hp
    go_wp2_with fail
    go_ret
    refine ⟨rfl, by rw [HK.out]; exact HP2.out.setAll hi ⟨false, true, false, 0⟩, ?_, by simpa [World.setCell] using HZ2.out⟩
    exact ((((HT2.out.setCell ⟨B, i * 4, none⟩ _ rfl).setCell ⟨B, i * 4 + 1, none⟩ _ rfl).setCell ⟨B, i * 4 + 2, none⟩ _ rfl).setCell ⟨B, i * 4 + 3, none⟩ _ rfl)
  · have hp := hb
    clear hb
    rw [hp] at HTK
    have hk : parkK (f i) = pk0 := by unfold parkK; rw [hp]; rfl
    have HK := Lib.hid hk
    clear hk hp
    go_wp2_with (go_at_call 306; refine HTK.out.mono ?_; rintro e w2 ⟨rfl, hp2, ht2, hz2⟩)
    go_ret
    exact ⟨rfl, by rw [HK.out]; exact hp2, HT.out.trans ht2 (fun _ _ e => e), hz2.trans HZ.out⟩
theorem park_yes {w : World} {B : Nat} {f : Nat → Pk} {n kd pk : Int} (h : PkAt w B f n kd pk) (hn : 0 ≤ n ∧ n ≤ 1000000000) {i : Nat} (hi : i < 128) :
    Calls Tryz.prog 305 #[Pt B, .int .i64 (i : Int)] w fun e w' => e = .returned (.int .u8 (if (f i).p then 1 else 0)) ∧ PSets w w' B (updP f i (parkK (f i))) (n + 1) 2 (i : Int) := park_b h hn hi _ rfl
end Go.Proofs.YtieiiabbeglmfaaGreatDoor.S4
namespace Go.Proofs.YtieiiabbeglmfaaGreatDoor.S12
set_option maxRecDepth 100000
set_option maxHeartbeats 16000000
open Go.Proofs.YtieiiabbeglmfaaGreatDoor Go.Proofs.YtieiiabbeglmfaaGreatDoor.S11
open Go.RowKit
section
variable {w w' : World} {base : Nat} {l l' : List Part}
theorem Parts.left (h : Parts w base (l ++ l')) : Parts w base l := by
  have g : ∀ i p, l[i]? = some p → (l ++ l')[i]? = some p := fun i p hp => by
    rw [List.getElem?_append_left (List.getElem?_eq_some_iff.1 hp).1]; exact hp
  exact ⟨h.size, fun i p hp => h.ok i p (g i p hp), fun i j p q hp hq => h.apart i j p q (g i p hp) (g j q hq), fun i p hp => h.low i p (g i p hp)⟩
end
structure Sd where
  L : S2.LL
  n : Nat
  k : Nat
  a : Nat
  was : Nat
  is : Nat
  T : Nat
  most : Nat
  D : List Nat
  pf : Nat → S4.Pk
  pn : Nat
  pk : Int
  pp : Int
  lk : S5.Lk
  m : Int → List S10.Bk
  nD : List Nt
  sp : Int
  tk : Nat → Nat
def Wm.sd (X : Wm) : Sd := ⟨X.L, X.n, X.k, X.a, X.was, X.is, X.T, X.most, X.D, X.pf, X.pn, X.pk, X.pp, X.lk, X.tM, X.nD, X.sp, X.tk⟩
def Sd.acc (M : Sd) (k a y : Nat) : Sd := { M with L := S2.putL M.L a (S2.bring a y), n := M.n + 1, k := k, a := a, was := S2.look M.L a, is := S2.bring a y }
def Sd.store (M : Sd) (a v : Nat) : Sd := M.acc 2 a v
def Sd.tab (M : Sd) (m : Int → List S10.Bk) : Sd := { M with m := m }
end Go.Proofs.YtieiiabbeglmfaaGreatDoor.S12
namespace Go.Proofs.YtieiiabbeglmfaaGreatDoor.S1
set_option maxRecDepth 100000
set_option maxHeartbeats 16000000
open Go.Proofs.YtieiiabbeglmfaaGreatDoor Go.Proofs.YtieiiabbeglmfaaGreatDoor.S11
open Go.RowKit Go.Lib
theorem nand_pow (x i : Nat) : x &&& 2 ^ i = x / 2 ^ i % 2 * 2 ^ i := by
  have ht := @Nat.testBit_eq_decide_div_mod_eq i x
  apply Nat.eq_of_testBit_eq
  intro j
  rw [Nat.testBit_and, Nat.testBit_two_pow]
  have h : x / 2 ^ i % 2 = 0 ∨ x / 2 ^ i % 2 = 1 := by omega
  by_cases hj : i = j
  · subst hj
    rcases h with h | h
    · rw [h] at ht ⊢; simp at ht ⊢; exact ht
    · rw [h] at ht ⊢; simp at ht ⊢; exact ht
  · rcases h with h | h
    · rw [h]; simp [hj]
    · rw [h, Nat.one_mul, Nat.testBit_two_pow]; simp [hj]
theorem and_pow (x i : Nat) (hx : x < 18446744073709551616) (hi : 2 ^ i < 18446744073709551616) : bits .and .u64 (x : Int) ((2 ^ i : Nat) : Int) = ((x / 2 ^ i % 2 * 2 ^ i : Nat) : Int) := by
  rw [bits_and_u64_nat x (2 ^ i) hx hi, nand_pow]
def bitB (u n : Nat) : Bool := decide (u / 2 ^ n % 2 = 1)
theorem ret_int {k : IntKind} {a b : Int} (h : a = b) : Ending.returned (.int k a) = .returned (.int k b) := by rw [h]
def putN (l q : Bool) (h : Int) : Int := (if 0 ≤ h ∧ h ≤ 63 then 4 * (h + 1) else 0) + (if l then 1 else 0) + (if q then 2 else 0)
theorem or_low (a : Nat) (ha : a ≤ 3) (h : Int) (h0 : 0 ≤ h) (h1 : h ≤ 63) : bits .or .u64 (a : Int) ((h + 1) * 4) = (h + 1) * 4 + a := by
  obtain ⟨n, rfl⟩ := Int.eq_ofNat_of_zero_le h0
  have e : ((n : Int) + 1) * 4 = (((n + 1) * 4 : Nat) : Int) := by omega
  rw [e, bits_or_u64_nat a ((n + 1) * 4) (by omega) (by omega), Nat.or_comm, show (n + 1) * 4 = 2 ^ 2 * (n + 1) by omega, ← Nat.two_pow_add_eq_or_of_lt (by omega)]
  omega
theorem put_any (l q : Bool) (h : Int) (hh : -9223372036854775808 ≤ h) (hh2 : h ≤ 9223372036854775807) (w : World) :
    Calls Tryz.prog 210 #[.agg #[.bool l, .bool q, .int .i64 h]] w fun e w' => e = .returned (.int .u64 (putN l q h)) ∧ Below w.heap.size w w' := by
  have b1 : bits .or .u64 0 1 = 1 := by decide
  have b2 : bits .or .u64 0 2 = 2 := by decide
  have b3 : bits .or .u64 1 2 = 3 := by decide
  by_cases c1 : 0 ≤ h
  · by_cases c2 : h < 64
    · have o0 : bits .or .u64 0 ((h + 1) * 4) = (h + 1) * 4 + 0 := or_low 0 (by omega) h c1 (by omega)
      have o1 : bits .or .u64 1 ((h + 1) * 4) = (h + 1) * 4 + 1 := or_low 1 (by omega) h c1 (by omega)
      have o2 : bits .or .u64 2 ((h + 1) * 4) = (h + 1) * 4 + 2 := or_low 2 (by omega) h c1 (by omega)
      have o3 : bits .or .u64 3 ((h + 1) * 4) = (h + 1) * 4 + 3 := or_low 3 (by omega) h c1 (by omega)
      cases l <;> cases q
      all_goals
        go_enter Tryz.func210, Tryz.ntmps210
        go_wp2
        go_ret
        exact ⟨ret_int (by unfold putN; rw [if_pos ⟨c1, by omega⟩]; simp; try omega), (Below.refl _ _).alloc (Nat.le_refl _) _⟩
    · cases l <;> cases q
      all_goals
        go_enter Tryz.func210, Tryz.ntmps210
        go_wp2
        go_ret
        exact ⟨ret_int (by unfold putN; rw [if_neg (by omega)]; rfl), (Below.refl _ _).alloc (Nat.le_refl _) _⟩
  · cases l <;> cases q
    all_goals
      go_enter Tryz.func210, Tryz.ntmps210
      go_wp2
      go_ret
      exact ⟨ret_int (by unfold putN; rw [if_neg (by omega)]; rfl), (Below.refl _ _).alloc (Nat.le_refl _) _⟩
def headN (u : Nat) : Int := if 1 ≤ u / 4 ∧ u / 4 ≤ 64 then ((u / 4 : Nat) : Int) - 1 else -1
def asV (u : Nat) : Value := .agg #[.bool (bitB u 0), .bool (bitB u 1), .int .i64 (headN u)]
theorem bitB_eq (u n d : Nat) (hd : 2 ^ n = d) (b : Bool) (h : (u / d % 2 == 1) = b) : bitB u n = b := by
  subst hd; subst h; unfold bitB; by_cases h : u / 2 ^ n % 2 = 1 <;> simp [h]
theorem as_any (u : Nat) (hu : u < 18446744073709551616) (w : World) :
    Calls Tryz.prog 204 #[.int .u64 u] w fun e w' => e = .returned (asV u) ∧ Below w.heap.size w w' := by
  have p0 : bits .and .u64 (u : Int) 1 = ((u / 1 % 2 * 1 : Nat) : Int) := and_pow u 0 hu (by decide)
  have p1 : bits .and .u64 (u : Int) 2 = ((u / 2 % 2 * 2 : Nat) : Int) := and_pow u 1 hu (by decide)
  have c0 : u / 1 % 2 = 0 ∨ u / 1 % 2 = 1 := by omega
  have c1 : u / 2 % 2 = 0 ∨ u / 2 % 2 = 1 := by omega
  rcases c0 with c0 | c0 <;> rcases c1 with c1 | c1
  all_goals
    rw [c0] at p0
    rw [c1] at p1
    have q0 := bitB_eq u 0 1 rfl _ rfl
    have q1 := bitB_eq u 1 2 rfl _ rfl
    rw [c0] at q0
    rw [c1] at q1
    simp at p0 p1
    have Q0 := Lib.hid q0
    have Q1 := Lib.hid q1
    clear q0 q1 c0 c1
    by_cases h1 : 1 ≤ u / 4
    · by_cases h2 : u / 4 ≤ 64
      · go_enter Tryz.func204, Tryz.ntmps204
        go_wp2
        refine bodyPost_ret (v := .agg #[.bool _, .bool _, .int .i64 _]) (by simp [results, Tryz.results204, go_sem]; exact ⟨rfl, rfl, rfl⟩) rfl ⟨?_, (Below.refl _ _).alloc (Nat.le_refl _) _⟩
        unfold asV headN
        rw [Q0.out, Q1.out, if_pos ⟨h1, h2⟩]
        rfl
      · go_enter Tryz.func204, Tryz.ntmps204
        go_wp2
        refine bodyPost_ret (v := .agg #[.bool _, .bool _, .int .i64 _]) (by simp [results, Tryz.results204, go_sem]; exact ⟨rfl, rfl, rfl⟩) rfl ⟨?_, (Below.refl _ _).alloc (Nat.le_refl _) _⟩
        unfold asV headN
        rw [Q0.out, Q1.out, if_neg (by omega)]
        rfl
    · go_enter Tryz.func204, Tryz.ntmps204
      go_wp2
      refine bodyPost_ret (v := .agg #[.bool _, .bool _, .int .i64 _]) (by simp [results, Tryz.results204, go_sem]; exact ⟨rfl, rfl, rfl⟩) rfl ⟨?_, (Below.refl _ _).alloc (Nat.le_refl _) _⟩
      unfold asV headN
      rw [Q0.out, Q1.out, if_neg (by omega)]
      rfl
def isHead (h : Int) : Prop := -1 ≤ h ∧ h ≤ 63
theorem put_nat (l q : Bool) (h : Int) (hi : isHead h) : ∃ n : Nat, putN l q h = n ∧ n ≤ 259 ∧ bitB n 0 = l ∧ bitB n 1 = q ∧ headN n = h := by
  obtain ⟨i1, i2⟩ := hi
  unfold putN bitB headN
  by_cases c : 0 ≤ h
  · obtain ⟨k, rfl⟩ := Int.eq_ofNat_of_zero_le c
    rw [if_pos ⟨c, i2⟩]
    cases l <;> cases q
    · refine ⟨4 * (k + 1), by simp, by omega, ?_, ?_, ?_⟩
      · simp; omega
      · simp; omega
      · rw [if_pos (by omega)]; omega
    · refine ⟨4 * (k + 1) + 2, by simp, by omega, ?_, ?_, ?_⟩
      · simp; omega
      · simp; omega
      · rw [if_pos (by omega)]; omega
    · refine ⟨4 * (k + 1) + 1, by simp, by omega, ?_, ?_, ?_⟩
      · simp; omega
      · simp; omega
      · rw [if_pos (by omega)]; omega
    · refine ⟨4 * (k + 1) + 3, by simp; omega, by omega, ?_, ?_, ?_⟩
      · simp; omega
      · simp; omega
      · rw [if_pos (by omega)]; omega
  · have e : h = -1 := by omega
    subst e
    rw [if_neg (by omega)]
    cases l <;> cases q
    · exact ⟨0, by decide, by decide, by decide, by decide, by decide⟩
    · exact ⟨2, by decide, by decide, by decide, by decide, by decide⟩
    · exact ⟨1, by decide, by decide, by decide, by decide, by decide⟩
    · exact ⟨3, by decide, by decide, by decide, by decide, by decide⟩
theorem put_as (u : Nat) (hu : u ≤ 259) : putN (bitB u 0) (bitB u 1) (headN u) = u := by
  unfold putN bitB headN
  by_cases c : 1 ≤ u / 4
  · rw [if_pos (show 1 ≤ u / 4 ∧ u / 4 ≤ 64 from ⟨c, by omega⟩), if_pos (by omega)]
    by_cases d : u / 2 ^ 0 % 2 = 1 <;> by_cases d2 : u / 2 ^ 1 % 2 = 1 <;> simp [d, d2] <;> simp at d d2 <;> omega
  · rw [if_neg (show ¬ (1 ≤ u / 4 ∧ u / 4 ≤ 64) by omega), if_neg (by omega)]
    by_cases d : u / 2 ^ 0 % 2 = 1 <;> by_cases d2 : u / 2 ^ 1 % 2 = 1 <;> simp [d, d2] <;> simp at d d2 <;> omega
theorem head_is (u : Nat) : isHead (headN u) := by
  unfold headN isHead; split <;> constructor <;> omega
def putU (l q : Bool) (h : Int) : Nat := (putN l q h).toNat
theorem putN_nat (l q : Bool) (h : Int) : putN l q h = ((putU l q h : Nat) : Int) ∧ putU l q h ≤ 259 := by
  have h0 : 0 ≤ putN l q h ∧ putN l q h ≤ 259 := by
    unfold putN
    by_cases c : 0 ≤ h ∧ h ≤ 63
    · rw [if_pos c]; cases l <;> cases q <;> simp <;> omega
    · rw [if_neg c]; cases l <;> cases q <;> simp
  unfold putU
  omega
theorem putU_any (l q : Bool) (h : Int) (hi : isHead h) (w : World) : Calls Tryz.prog 210 #[.agg #[.bool l, .bool q, .int .i64 h]] w fun e w' => e = .returned (.int .u64 ((putU l q h : Nat) : Int)) ∧ Below w.heap.size w w' := by
  rw [← (putN_nat l q h).1]
  exact put_any l q h (by unfold isHead at hi; omega) (by unfold isHead at hi; omega) w
theorem putU_lt (l q : Bool) (h : Int) : putU l q h < 18446744073709551616 := by have := (putN_nat l q h).2; omega
theorem putU_one : putU true false (-1) = 1 := by decide
end Go.Proofs.YtieiiabbeglmfaaGreatDoor.S1
set_option linter.unusedVariables false
set_option linter.unusedSimpArgs false
namespace Go.Proofs.YtieiiabbeglmfaaGreatDoor.S12
open Go.Proofs.YtieiiabbeglmfaaGreatDoor Go.Proofs.YtieiiabbeglmfaaGreatDoor.S11
open Go.RowKit
def Sd.call (M : Sd) (k p : Int) (f : Nat → S4.Pk) : Sd := { M with pf := f, pn := M.pn + 1, pk := k, pp := p }
def Sd.prep (M : Sd) (i : Nat) : Sd := M.call 1 (i : Int) (S4.updP M.pf i S4.pk0)
def Sd.park (M : Sd) (i : Nat) : Sd := M.call 2 (i : Int) (S4.updP M.pf i (S4.parkK (M.pf i)))
def Sd.unpark (M : Sd) (i : Nat) : Sd := M.call 4 (i : Int) (S4.updP M.pf i { M.pf i with p := true })
def Sd.link (M : Sd) (S : S5.Lk) : Sd := { M with lk := S }
structure Pg (w0 w : World) (base WB : Nat) (M : Sd) (r : List Part) (X : Wm) : Prop where
  ps : Parts w base (X.parts ++ r)
  wB : X.wB = WB
  xm : X.sd = M
  bl : Below base w0 w
section
variable {w0 w w' : World} {base WB : Nat} {M : Sd} {r : List Part} {X : Wm}
theorem Pg.pw (h : Pg w0 w base WB M r X) : PW w base X := Parts.left h.ps
theorem Pg.new (h : Pg w0 w base WB M r X) (b : Below w.heap.size w w') : Pg w0 w' base WB M r X := ⟨h.ps.new b, h.wB, h.xm, h.bl.trans (b.mono h.ps.size)⟩
theorem Pg.size (h : Pg w0 w base WB M r X) : base ≤ w.heap.size := h.ps.size
theorem Pg.part (h : Pg w0 w base WB M r X) {j : Nat} {p : Part} (hj : r[j]? = some p) : (X.parts ++ r)[7 + j]? = some p := by
  rw [List.getElem?_append_right (by show 7 ≤ 7 + j; omega)]
  show r[7 + j - 7]? = _
  rw [Nat.add_sub_cancel_left]; exact hj
theorem Pg.turn (h : Pg w0 w base WB M r X) {j : Nat} {p : Part} (hj : r[j]? = some p) (q : Part) (hq : q.ok w') (t : Turns p.fp w w') (hf : ∀ k, q.fp k → p.fp k ∨ w.heap.size ≤ k) : Pg w0 w' base WB M (r.set j q) X := by
  obtain ⟨hp, hb⟩ := h.ps.turn (h.part hj) q hq t hf
  refine ⟨?_, h.wB, h.xm, h.bl.trans hb⟩
  rw [List.set_append_right _ _ (by show 7 ≤ 7 + j; omega)] at hp
  have e : 7 + j - X.parts.length = j := by show 7 + j - 7 = j; omega
  rwa [e] at hp
theorem Pg.left (h : Pg w0 w base WB M r X) {k a y : Nat} (l : S2.Left w w' X.cB X.cM (S2.putL X.L a (S2.bring a y)) (X.n + 1) k a (S2.look X.L a) (S2.bring a y)) :
    ∃ X', Pg w0 w' base WB (M.acc k a y) r X' ∧ X'.cB = X.cB := by
  obtain ⟨M', hp, hb⟩ := t_cells (i := 0) h.ps rfl l
  refine ⟨{ X with cM := M', L := S2.putL X.L a (S2.bring a y), n := X.n + 1, k := k, a := a, was := S2.look X.L a, is := S2.bring a y }, ⟨hp, h.wB, ?_, h.bl.trans hb⟩, rfl⟩
  rw [← h.xm]; rfl
theorem Pg.perm (h : Pg w0 w base WB M r X) {k p : Int} {f : Nat → S4.Pk} (l : S4.PSets w w' X.pB f ((X.pn : Int) + 1) k p) : ∃ X', Pg w0 w' base WB (M.call k p f) r X' ∧ X'.pB = X.pB := by
  obtain ⟨hp, hb⟩ := t_permits (i := 2) h.ps rfl l
  refine ⟨{ X with pf := f, pn := X.pn + 1, pk := k, pp := p }, ⟨hp, h.wB, ?_, h.bl.trans hb⟩, rfl⟩
  rw [← h.xm]; rfl
theorem Pg.links (h : Pg w0 w base WB M r X) {S : S5.Lk} (l : S5.Sets w w' X.lB S) : ∃ X', Pg w0 w' base WB (M.link S) r X' ∧ X'.lB = X.lB := by
  obtain ⟨hp, hb⟩ := t_links (i := 3) h.ps rfl l
  refine ⟨{ X with lk := S }, ⟨hp, h.wB, ?_, h.bl.trans hb⟩, rfl⟩
  rw [← h.xm]; rfl
theorem Pg.c (h : Pg w0 w base WB M r X) : w.cell? ⟨WB, 0, none⟩ = some (Pw X.cB) ∧ w.cell? ⟨WB, 2, none⟩ = some (Pw X.pB) ∧ w.cell? ⟨WB, 3, none⟩ = some (Pw X.lB) ∧ w.cell? ⟨WB, 6, none⟩ = some (.int .i64 M.sp) := by
  rw [← h.wB, ← h.xm]
  exact ⟨h.pw.c0, h.pw.c2, h.pw.c3, h.pw.c6⟩
theorem Pg.cas (h : Pg w0 w base WB M r X) {a u v : Nat} (ha : a < 4294967296) (hv : v < 18446744073709551616) (hn : M.n ≤ 1000000000) :
    Calls Tryz.prog 245 #[Pw X.cB, .int .u32 a, .int .u64 u, .int .u64 v] w fun e w' => e = .returned (.tuple #[.int .u64 (S2.look M.L a : Nat), .bool (decide (S2.look M.L a = u))]) ∧ ∃ X', Pg w0 w' base WB (M.acc 3 a (S2.casV (S2.look M.L a) u v)) r X' ∧ X'.cB = X.cB := by
  have e : X.L = M.L := congrArg Sd.L h.xm
  have e2 : X.n = M.n := congrArg Sd.n h.xm
  rw [← e]
  refine (S2.cas_any w X.cB X.cM X.L X.n X.k X.a X.was X.is a u v h.pw.cells ha hv (by omega)).mono ?_
  rintro e w' ⟨rfl, hl⟩
  exact ⟨rfl, h.left hl⟩
theorem Pg.load (h : Pg w0 w base WB M r X) {a : Nat} (ha : a < 4294967296) (hn : M.n ≤ 1000000000) :
    Calls Tryz.prog 207 #[Pw X.cB, .int .u32 a] w fun e w' => e = .returned (.int .u64 (S2.look M.L a : Nat)) ∧ ∃ X', Pg w0 w' base WB (M.acc 1 a (S2.look M.L a)) r X' ∧ X'.cB = X.cB := by
  have e : X.L = M.L := congrArg Sd.L h.xm
  have e2 : X.n = M.n := congrArg Sd.n h.xm
  rw [← e]
  refine (S2.load_any w X.cB X.cM X.L X.n X.k X.a X.was X.is a h.pw.cells ha (by omega)).mono ?_
  rintro e w' ⟨rfl, hl⟩
  exact ⟨rfl, h.left hl⟩
theorem Pg.store (h : Pg w0 w base WB M r X) {a v : Nat} (ha : a < 4294967296) (hv : v < 18446744073709551616) (hn : M.n ≤ 1000000000) :
    Calls Tryz.prog 114 #[Pw X.cB, .int .u32 a, .int .u64 v] w fun e w' => e = .returned (.int .u64 (S2.look M.L a : Nat)) ∧ ∃ X', Pg w0 w' base WB (M.acc 2 a v) r X' ∧ X'.cB = X.cB := by
  have e : X.L = M.L := congrArg Sd.L h.xm
  have e2 : X.n = M.n := congrArg Sd.n h.xm
  rw [← e]
  refine (S2.store_any w X.cB X.cM X.L X.n X.k X.a X.was X.is a v h.pw.cells ha hv (by omega)).mono ?_
  rintro e w' ⟨rfl, hl⟩
  exact ⟨rfl, h.left hl⟩
theorem Pg.prep (h : Pg w0 w base WB M r X) (hn : M.pn ≤ 1000000000) {i : Nat} (hi : i < 128) :
    Calls Tryz.prog 215 #[Pw X.pB, .int .i64 (i : Int)] w fun e w' => e = .returned (.tuple #[]) ∧ ∃ X', Pg w0 w' base WB (M.prep i) r X' ∧ X'.pB = X.pB := by
  have e2 : X.pn = M.pn := congrArg Sd.pn h.xm
  refine (S4.prepare_yes h.pw.permits (by omega) hi).mono ?_
  rintro e w' ⟨rfl, hl⟩
  rw [show X.pf = M.pf from congrArg Sd.pf h.xm] at hl
  exact ⟨rfl, h.perm hl⟩
theorem Pg.park (h : Pg w0 w base WB M r X) (hn : M.pn ≤ 1000000000) {i : Nat} (hi : i < 128) :
    Calls Tryz.prog 305 #[Pw X.pB, .int .i64 (i : Int)] w fun e w' => e = .returned (.int .u8 (if (M.pf i).p then 1 else 0)) ∧ ∃ X', Pg w0 w' base WB (M.park i) r X' ∧ X'.pB = X.pB := by
  have e2 : X.pn = M.pn := congrArg Sd.pn h.xm
  refine (S4.park_yes h.pw.permits (by omega) hi).mono ?_
  rintro e w' ⟨rfl, hl⟩
  rw [show X.pf = M.pf from congrArg Sd.pf h.xm] at hl ⊢
  exact ⟨rfl, h.perm hl⟩
theorem Pg.unpark (h : Pg w0 w base WB M r X) (hn : M.pn ≤ 1000000000) {i : Nat} (hi : i < 128) :
    Calls Tryz.prog 150 #[Pw X.pB, .int .i64 (i : Int)] w fun e w' => e = .returned (.tuple #[]) ∧ ∃ X', Pg w0 w' base WB (M.unpark i) r X' ∧ X'.pB = X.pB := by
  have e2 : X.pn = M.pn := congrArg Sd.pn h.xm
  refine (S4.unpark_yes h.pw.permits (by omega) hi).mono ?_
  rintro e w' ⟨rfl, hl⟩
  rw [show X.pf = M.pf from congrArg Sd.pf h.xm] at hl
  exact ⟨rfl, h.perm hl⟩
theorem Pg.push (h : Pg w0 w base WB M r X) {x y : Int} {t hd : Option Nat} (hx : S5.Num x t) (hy : S5.Num y hd) :
    Calls Tryz.prog 290 #[Pw X.lB, .int .i64 x, .int .i64 y] w fun e w' => e = .returned (.tuple #[]) ∧ ∃ X', Pg w0 w' base WB (M.link (S5.pushS M.lk t hd)) r X' ∧ X'.lB = X.lB := by
  refine (S5.push_any h.pw.links hx hy).mono ?_
  rintro e w' ⟨rfl, hl⟩
  rw [show X.lk = M.lk from congrArg Sd.lk h.xm] at hl
  exact ⟨rfl, h.links hl⟩
end
theorem word_any (t : Nat) (ht : t < 64) (w : World) : Calls Tryz.prog 211 #[.int .i64 (t : Int)] w fun e w' => e = .returned (.int .i64 ((2 * t + 1 : Nat) : Int)) ∧ w = w' := by
  have hof : ∀ W, Calls Tryz.prog 78 #[.int .i64 (t : Int), .int .i64 1] W fun e w' => e = .returned (.int .i64 ((2 * t + 1 : Nat) : Int)) ∧ W = w' := fun W => by
    have h1 : decide ((t : Int) < 0) = false := by simp
    have h2 : decide ((64 : Int) ≤ (t : Int)) = false := by simp; omega
    have h3 : wrap64 (wrap64 (2 * (t : Int)) + 1) = ((2 * t + 1 : Nat) : Int) := by unfold wrap64; omega
    have h4 : wrap64 (2 * (t : Int)) = 2 * (t : Int) := by unfold wrap64; omega
    have h5 : wrap64 (2 * (t : Int) + 1) = ((2 * t + 1 : Nat) : Int) := by unfold wrap64; omega
    go_enter Tryz.func78, Tryz.ntmps78
    go_wp2_with fail
    go_ret
    exact ⟨rfl, rfl⟩
  have HO := Lib.hid hof
  clear hof ht
  go_enter Tryz.func211, Tryz.ntmps211
  go_wp2_with (go_at_call 78; refine (HO.out _).mono ?_; rintro e w1 ⟨rfl, rfl⟩)
  go_ret
  exact ⟨rfl, rfl⟩
end Go.Proofs.YtieiiabbeglmfaaGreatDoor.S12
namespace Go.Proofs.YtieiiabbeglmfaaGreatDoor.S13
open Go.Proofs.YtieiiabbeglmfaaGreatDoor Go.Proofs.YtieiiabbeglmfaaGreatDoor.S11 Go.Proofs.YtieiiabbeglmfaaGreatDoor.S12
open Go.RowKit
structure Lk where
  ln : Nat
  t : Nat
  a : Nat
  st : Nat
  sp : Int
def lk0 : Lk := ⟨0, 0, 0, 0, 0⟩
def lk1 (t a : Nat) : Lk := ⟨1, t, a, 0, 0⟩
abbrev askV (t a : Nat) : Value := .agg #[.int .i64 (t : Int), .int .u32 (a : Int)]
def nxV (t a : Nat) : Nat → Value
  | 1 => .func (.func 319) #[askV t a] #[]
  | 2 => .func (.func 323) #[askV t a] #[]
  | 3 => .func (.func 325) #[askV t a] #[]
  | 4 => .func (.func 326) #[askV t a] #[]
  | 5 => .func (.func 327) #[askV t a] #[]
  | 6 => .func (.func 328) #[askV t a] #[]
  | _ => .nilFunc
def Lk.cs (K : Lk) : Array Value := #[nxV K.t K.a K.ln, .int .u64 (K.st : Int), .int .i64 K.sp, .bool (decide (K.ln = 6))]
def lockP (B : Nat) (K : Lk) : Part := blockP B (.cells K.cs 451)
def Lk.turn (K : Lk) (u : Nat) : Lk :=
  if S1.bitB u 0 = false then { K with st := u, ln := 2 }
  else if S1.headN u = -1 then (if 0 < K.sp then { K with st := u, ln := 3, sp := K.sp - 1 } else { K with st := u, ln := 4 })
  else { K with st := u, ln := 4 }
structure Wl (w0 w : World) (base WB : Nat) (M : Sd) (r : List Part) (j B : Nat) (K : Lk) (X : Wm) : Prop where
  pg : Pg w0 w base WB M (r.set j (lockP B K)) X
  hj : j < r.length
section
variable {w0 w w' : World} {base WB : Nat} {M : Sd} {r : List Part} {j B : Nat} {K : Lk} {X : Wm}
theorem Wl.new (h : Wl w0 w base WB M r j B K X) (b : Below w.heap.size w w') : Wl w0 w' base WB M r j B K X := ⟨h.pg.new b, h.hj⟩
theorem Wl.part (h : Wl w0 w base WB M r j B K X) : (r.set j (lockP B K))[j]? = some (lockP B K) := List.getElem?_set_self h.hj
theorem Wl.blk (h : Wl w0 w base WB M r j B K X) : w.heap[B]? = some (.cells K.cs 451 (0, 0)) := h.pg.ps.ok _ _ (h.pg.part h.part)
theorem Wl.b0 (h : Wl w0 w base WB M r j B K X) : w.cell? ⟨B, 0, none⟩ = some (nxV K.t K.a K.ln) := cell_row h.blk 0
theorem Wl.b1 (h : Wl w0 w base WB M r j B K X) : w.cell? ⟨B, 1, none⟩ = some (.int .u64 (K.st : Int)) := cell_row h.blk 1
theorem Wl.b2 (h : Wl w0 w base WB M r j B K X) : w.cell? ⟨B, 2, none⟩ = some (.int .i64 K.sp) := cell_row h.blk 2
theorem Wl.b3 (h : Wl w0 w base WB M r j B K X) : w.cell? ⟨B, 3, none⟩ = some (.bool (decide (K.ln = 6))) := cell_row h.blk 3
theorem Wl.fz (h : Wl w0 w base WB M r j B K X) (i : Nat) : w.frozen? ⟨B, i, none⟩ = false := froz_row h.blk i
theorem Wl.put (h : Wl w0 w base WB M r j B K X) (K' : Lk) (hq : w'.heap[B]? = some (.cells K'.cs 451 (0, 0))) (t : Turns (fun k => k = B) w w') : Wl w0 w' base WB M r j B K' X := by
  have := h.pg.turn h.part (lockP B K') hq t (fun k e => .inl e)
  rw [List.set_set] at this
  exact ⟨this, h.hj⟩
theorem set_blk {cs : Array Value} {T : TypeId} (hq : w.heap[B]? = some (.cells cs T (0, 0))) (i : Nat) (v : Value) (cs' : Array Value) (e : cs.setIfInBounds i v = cs') : (w.setCell ⟨B, i, none⟩ v).heap[B]? = some (.cells cs' T (0, 0)) := by
  subst e
  simp [World.setCell, Array.getElem?_modify, hq]
end
end Go.Proofs.YtieiiabbeglmfaaGreatDoor.S13
