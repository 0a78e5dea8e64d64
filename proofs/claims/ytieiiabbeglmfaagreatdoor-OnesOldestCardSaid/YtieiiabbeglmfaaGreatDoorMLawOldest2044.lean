/- Texts of this seat, one behind the other. -/
import Derived.Test.YtieiiabbeglmfaaGreatDoorMLawOldest201
import Derived.Test.YtieiiabbeglmfaaGreatDoorMLawOldest2043
import Derived.Deep.RegionLaw
set_option linter.unusedVariables false
set_option linter.unusedSimpArgs false
set_option linter.unusedVariables false
set_option linter.unusedSimpArgs false
namespace Go.Proofs.YtieiiabbeglmfaaGreatDoor.S12
set_option maxRecDepth 100000
set_option maxHeartbeats 16000000
open Go.Proofs.YtieiiabbeglmfaaGreatDoor Go.Proofs.YtieiiabbeglmfaaGreatDoor.S11
open Go.RowKit
def onlyN (Q : Exit → Act → World → Prop) : Exit → Act → World → Prop
  | .normal, a, w => Q .normal a w
  | _, _, _ => False
section
variable {w0 w w' : World} {base WB : Nat} {M : Sd} {r : List Part} {X : Wm}
theorem fire_no (h : Pg w0 w base WB M r X) {b : Int} (hb : S10.InI b) {ni : Nat} (hi : ni < (M.m b).length) (hd : ¬ (M.m b)[ni]!.a < (M.T : Int)) :
    Calls Tryz.prog 196 #[Pw WB, .agg #[.int .i64 b, .int .i64 (ni : Int)]] w fun e w' => e = .returned (.bool false) ∧ Pg w0 w' base WB M r X := by
  obtain rfl := h.wB
  obtain rfl := h.xm
  obtain ⟨ta, hta⟩ : ∃ ta, ta = (X.tM b)[ni]!.a := ⟨_, rfl⟩
  obtain ⟨tf, htf⟩ : ∃ tf, tf = (X.tM b)[ni]!.f := ⟨_, rfl⟩
  have HDD : Hid (¬ ta < (X.T : Int)) := Lib.hid (by rw [hta]; exact hd)
  have ht : ∀ W tb tO ts tn, S10.St W tb tO ts tn X.tM → Calls Tryz.prog 35 #[ts, .agg #[.int .i64 b, .int .i64 (ni : Int)]] W fun e w' => e = .returned (.agg #[.int .u64 ta, .int .u64 tf]) ∧ Below W.heap.size W w' := fun W tb tO ts tn hs => by
    obtain ⟨F, hr⟩ := hs.rs
    rw [hta, htf]
    exact S10.timer_yes hr hb hi
  obtain ⟨i, hI⟩ : ∃ i : Int, i = (ni : Int) := ⟨_, rfl⟩
  rw [← hI] at ht ⊢
  clear hta htf hI hi hd hb
  have hB : Below w.heap.size w (w.alloc (.cells #[.int .i64 b, .int .i64 i] 97)) := (Below.refl _ _).alloc (Nat.le_refl _) _
  have hnew := heap_alloc_new w (.cells #[.int .i64 b, .int .i64 i] 97)
  have p0 := cell_row hnew 0; have p1 := cell_row hnew 1
  have hpt : ∃ B0, B0 = w.heap.size := ⟨_, rfl⟩
  obtain ⟨B0, hB0⟩ := hpt
  have hbs := h.size
  rw [← hB0] at p0 p1
  simp only [List.getElem?_toArray, List.getElem?_cons_zero, List.getElem?_cons_succ] at p0 p1
  have hW0 := hnew
  rw [← hB0] at hW0
  have HB := Lib.hid hB; have HB0 := Lib.hid hB0; have HH := Lib.hid h; have HBS := Lib.hid hbs
  clear h hB hnew hB0 hbs
  go_enter Tryz.func196, Tryz.ntmps196
  go_upto_region 3 with (fail)
  rw [← HB0.out]
  generalize w.alloc (.cells #[.int .i64 b, .int .i64 i] 97) = wb at *
  have HF : Hid (∀ W, Below wb.heap.size wb W → Pg w0 W base X.wB X.sd r X) := Lib.hid (fun W q => HH.out.new (HB.out.trans (q.mono HB.out.size)))
  have HTI := Lib.hid (fun (W : World) (q : Below wb.heap.size wb W) => ht W X.tb X.tO X.ts X.tn (HF.out W q).pw.tables)
  have HNOW := Lib.hid (fun (W : World) (q : Below wb.heap.size wb W) => S3.now_any (HF.out W q).pw.clock)
  have HDUE := Lib.hid (due_int ta tf X.T)
  have HC : Hid (∀ W, Below wb.heap.size wb W → W.cell? ⟨X.wB, 1, none⟩ = some (Pw X.kB) ∧ W.cell? ⟨X.wB, 4, none⟩ = some X.ts ∧ W.cell? ⟨B0, 0, none⟩ = some (.int .i64 b) ∧ W.cell? ⟨B0, 1, none⟩ = some (.int .i64 i)) := Lib.hid (fun W q => ⟨(HF.out W q).pw.c1, (HF.out W q).pw.c4, bcell q p0, bcell q p1⟩)
  have HN0 : Hid (∀ k, Foot X k → k ≠ B0) := Lib.hid (fun k hk e => by have := HH.out.pw.foot_lt hk; have := HB0.out; omega)
  have HW0 : Hid (wb.heap[B0]? = some (.cells #[.int .i64 b, .int .i64 i] 97)) := Lib.hid hW0
  clear HB HB0 HH HBS ht hW0
  obtain ⟨c1, c4, q0, q1⟩ := HC.out wb (Below.refl _ _)
  obtain ⟨cB, cM, L, n, kk, aa, was, is, kb, kB, T, most, ks, D, pB, pf, pn, pk, pp, lB, lk, tb, tO, ts, tn, tM, nb, nB, ns, nD, wB, sp, tk⟩ := X
  dsimp only at *
  have R0 : Hid (Below wb.heap.size wb wb.drew) := Lib.hid ((Below.refl _ _).drew)
  have R00 : Hid (Below wb.heap.size wb (wb.alloc (.cells #[.int .u64 0, .int .u64 0] 100))) := Lib.hid ((Below.refl _ _).alloc (Nat.le_refl _) _)
  have R0a : Hid (Below wb.heap.size wb (wb.alloc (.cells #[.int .u64 0, .int .u64 0] 100)).drew) := Lib.hid R00.out.drew
  clear R00 R0a
  refine wp_mono (Q := onlyN (fun _ a' w' => ∃ Bx : Nat, a' = { tmps := #[Pw wB, .agg #[.int .i64 b, .int .i64 i], undef, Pw B0, .bool false, Pw Bx, .int .u64 (T : Int), undef, Pw wB, .bool false, Pw wB, .pointer (some ⟨wB, 0, none⟩), .pointer (some ⟨wB, 4, none⟩), ts, .agg #[.int .i64 b, .int .i64 i], TmI ta tf, Pw wB, .pointer (some ⟨wB, 0, none⟩), .pointer (some ⟨wB, 1, none⟩), Pw kB, .int .u64 (T : Int), undef, undef, undef, undef, undef, undef, undef, undef, undef, undef, undef, undef, undef, undef, undef, undef, undef, undef, undef, undef, undef, undef, undef], defers := [] } ∧ Below wb.heap.size wb w' ∧ wb.heap.size ≤ Bx ∧ TmIn w' Bx ta tf)) ?_ ?_
  · refine wp_region_held_drew (S := fun w' => w'.cell? ⟨wB, 1, none⟩ = some (Pw kB) ∧ w'.cell? ⟨wB, 4, none⟩ = some ts ∧ w'.cell? ⟨B0, 0, none⟩ = some (.int .i64 b) ∧ w'.cell? ⟨B0, 1, none⟩ = some (.int .i64 i)) (by kernel_rfl) ?_ (fun hHeld => ?_)
    · exact HC.out _ R0.out
    refine tA 0 ⟨some 10, .move (.tmp 0), 24, "worlds.go:85", #[], none⟩ ?vax1 ?rax1
    (try simp only [Act.put, tC, tD, tE])
    refine tA 1 ⟨some 11, .nilCheck (.tmp 10), 0, "worlds.go:85", #[⟨0, .data⟩], none⟩ ?vax2 ?rax2
    (try simp only [Act.put, tC, tD, tE])
    refine tA 2 ⟨some 12, .fieldAddr 47 (.tmp 11) 4, 0, "worlds.go:85", #[⟨1, .data⟩], none⟩ ?vax3 ?rax3
    (try simp only [Act.put, tC, tD, tE])
    refine tA 3 ⟨some 13, .load 43 (.tmp 12), 43, "worlds.go:85", #[⟨2, .data⟩], none⟩ ?vax4 ?rax4
    (try simp only [Act.put, tC, tD, tE])
    refine tA 4 ⟨some 14, .load 97 (.tmp 3), 97, "worlds.go:85", #[], none⟩ ?vax5 ?rax5
    (try simp only [Act.put, tC, tD, tE])
    refine tA 6 ⟨some 16, .move (.tmp 0), 24, "worlds.go:85", #[], none⟩ ?vax6 ?rax6
    (try simp only [Act.put, tC, tD, tE])
    refine tA 7 ⟨some 17, .nilCheck (.tmp 16), 0, "worlds.go:85", #[⟨6, .data⟩], none⟩ ?vax7 ?rax7
    (try simp only [Act.put, tC, tD, tE])
    refine tA 8 ⟨some 18, .fieldAddr 47 (.tmp 17) 1, 0, "worlds.go:85", #[⟨7, .data⟩], none⟩ ?vax8 ?rax8
    (try simp only [Act.put, tC, tD, tE])
    refine tA 9 ⟨some 19, .load 40 (.tmp 18), 40, "worlds.go:85", #[⟨8, .data⟩], none⟩ ?vax9 ?rax9
    (try simp only [Act.put, tC, tD, tE])
    refine wpAnyH_ready (rs := [5, 11]) (by kernel_rfl) (by simp) ?_
    refine AllReadyH.cons (o := ⟨some 15, .call ⟨.value (.func 35), #[.tmp 13, .tmp 14], #[43, 97]⟩, 100, "worlds.go:85", #[⟨3, .data⟩, ⟨4, .data⟩], none⟩) rfl (fun Kq hKq => ?_) ?_
    · go_simp
      (refine (HTI.out _ R0.out).mono ?_; rintro e w1 ⟨rfl, hb1⟩)
      have R1 : Hid (Below wb.heap.size wb w1) := Lib.hid (R0.out.trans (hb1.mono R0.out.size))
      clear hb1
      refine hKq.out _ _ ?_ (fun hHeld => ?_)
      · exact HC.out _ R1.out
      clear hKq Kq
      (try simp only [Act.put, tC, tD, tE])
      refine wpAnyH_ready (rs := [10, 11]) (by kernel_rfl) (by simp) ?_
      refine AllReadyH.cons (o := ⟨some 20, .call ⟨.value (.func 72), #[.tmp 19], #[40]⟩, 23, "worlds.go:85", #[⟨9, .data⟩, ⟨5, .chain⟩], none⟩) rfl (fun Kq hKq => ?_) ?_
      · go_simp
        (refine (HNOW.out _ R1.out).mono ?_; rintro e w2 ⟨rfl, rfl⟩)
        refine hKq.out _ _ ?_ (fun hHeld => ?_)
        · exact HC.out _ R1.out
        clear hKq Kq
        (try simp only [Act.put, tC, tD, tE])
        refine wpAnyH_ready (rs := [11]) (by kernel_rfl) (by simp) ?_
        refine AllReadyH.cons (o := ⟨some 5, .alloc 100, 0, "worlds.go:85", #[], none⟩) rfl (fun Kq hKq => ?_) AllReadyH.nil
        go_simp
        have R3 : Hid (Below wb.heap.size wb (w1.alloc (.cells #[.int .u64 0, .int .u64 0] 100))) := Lib.hid ((R1.out.alloc R1.out.size _))
        have TZ3 : Hid (TmIn (w1.alloc (.cells #[.int .u64 0, .int .u64 0] 100)) w1.heap.size 0 0) := Lib.hid (TmIn.made w1 0 0)
        generalize w1.alloc (.cells #[.int .u64 0, .int .u64 0] 100) = w3 at *
        refine hKq.out _ _ ?_ (fun hHeld => ?_)
        · exact HC.out _ R3.out
        clear hKq Kq
        (try simp only [Act.put, tC, tD, tE])
        refine wpAnyH_ready (rs := [12]) (by kernel_rfl) (by simp) ?_
        refine AllReadyH.cons (o := ⟨none, .store 100 (.tmp 5) (.tmp 15), 0, "worlds.go:85", #[⟨11, .data⟩, ⟨5, .data⟩, ⟨10, .chain⟩, ⟨0, .phase⟩, ⟨1, .phase⟩, ⟨2, .phase⟩, ⟨3, .phase⟩, ⟨4, .phase⟩, ⟨5, .phase⟩, ⟨6, .textOnly .lateStores⟩, ⟨7, .textOnly .lateStores⟩, ⟨8, .textOnly .lateStores⟩, ⟨9, .textOnly .lateStores⟩, ⟨10, .textOnly .lateStoresUnsure⟩, ⟨11, .phase⟩], none⟩) rfl (fun Kq hKq => ?_) AllReadyH.nil
        have z0 := TZ3.out.c0; have z1 := TZ3.out.c1; have f0 := TZ3.out.z0; have f1 := TZ3.out.z1
        go_simp
        have hle : wb.heap.size ≤ w1.heap.size := by have := R1.out.size; omega
        have R4 : Hid (Below wb.heap.size wb ((w3.setCell ⟨w1.heap.size, 0, none⟩ (.int .u64 ta)).setCell ⟨w1.heap.size, 1, none⟩ (.int .u64 tf))) := Lib.hid ((R3.out.setCell (p := ⟨w1.heap.size, 0, none⟩) hle _).setCell (p := ⟨w1.heap.size, 1, none⟩) hle _)
        have TZ4 : Hid (TmIn ((w3.setCell ⟨w1.heap.size, 0, none⟩ (.int .u64 ta)).setCell ⟨w1.heap.size, 1, none⟩ (.int .u64 tf)) w1.heap.size ta tf) := Lib.hid (TZ3.out.put ta tf)
        clear z0 z1 f0 f1
        generalize ((w3.setCell ⟨w1.heap.size, 0, none⟩ (.int .u64 ta)).setCell ⟨w1.heap.size, 1, none⟩ (.int .u64 tf)) = w4 at *
        refine hKq.out _ _ ?_ (fun hHeld => ?_)
        · exact HC.out _ R4.out
        clear hKq Kq
        (try simp only [Act.put, tC, tD, tE])
        refine tA 13 ⟨some 6, .assign (.tmp 20), 23, "worlds.go:85", #[⟨10, .data⟩, ⟨12, .chain⟩, ⟨0, .phase⟩, ⟨1, .phase⟩, ⟨2, .phase⟩, ⟨3, .phase⟩, ⟨4, .phase⟩, ⟨5, .phase⟩, ⟨6, .phase⟩, ⟨7, .phase⟩, ⟨8, .phase⟩, ⟨9, .phase⟩, ⟨10, .phase⟩, ⟨11, .phase⟩, ⟨12, .phase⟩], none⟩ ?vax10 ?rax10
        (try simp only [Act.put, tC, tD, tE])
        refine wpAnyH_done (by kernel_rfl) ?_ _
        exact ⟨w1.heap.size, rfl, R4.out, hle, TZ4.out⟩
      refine AllReadyH.cons (o := ⟨some 5, .alloc 100, 0, "worlds.go:85", #[], none⟩) rfl (fun Kq hKq => ?_) AllReadyH.nil
      go_simp
      have R2 : Hid (Below wb.heap.size wb (w1.alloc (.cells #[.int .u64 0, .int .u64 0] 100))) := Lib.hid ((R1.out.alloc R1.out.size _))
      have TZ2 : Hid (TmIn (w1.alloc (.cells #[.int .u64 0, .int .u64 0] 100)) w1.heap.size 0 0) := Lib.hid (TmIn.made w1 0 0)
      generalize w1.alloc (.cells #[.int .u64 0, .int .u64 0] 100) = w2 at *
      refine hKq.out _ _ ?_ (fun hHeld => ?_)
      · exact HC.out _ R2.out
      clear hKq Kq
      (try simp only [Act.put, tC, tD, tE])
      refine wpAnyH_ready (rs := [10]) (by kernel_rfl) (by simp) ?_
      refine AllReadyH.cons (o := ⟨some 20, .call ⟨.value (.func 72), #[.tmp 19], #[40]⟩, 23, "worlds.go:85", #[⟨9, .data⟩, ⟨5, .chain⟩], none⟩) rfl (fun Kq hKq => ?_) AllReadyH.nil
      go_simp
      (refine (HNOW.out _ R2.out).mono ?_; rintro e w3 ⟨rfl, rfl⟩)
      refine hKq.out _ _ ?_ (fun hHeld => ?_)
      · exact HC.out _ R2.out
      clear hKq Kq
      (try simp only [Act.put, tC, tD, tE])
      refine wpAnyH_ready (rs := [12]) (by kernel_rfl) (by simp) ?_
      refine AllReadyH.cons (o := ⟨none, .store 100 (.tmp 5) (.tmp 15), 0, "worlds.go:85", #[⟨11, .data⟩, ⟨5, .data⟩, ⟨10, .chain⟩, ⟨0, .phase⟩, ⟨1, .phase⟩, ⟨2, .phase⟩, ⟨3, .phase⟩, ⟨4, .phase⟩, ⟨5, .phase⟩, ⟨6, .textOnly .lateStores⟩, ⟨7, .textOnly .lateStores⟩, ⟨8, .textOnly .lateStores⟩, ⟨9, .textOnly .lateStores⟩, ⟨10, .textOnly .lateStoresUnsure⟩, ⟨11, .phase⟩], none⟩) rfl (fun Kq hKq => ?_) AllReadyH.nil
      have z0 := TZ2.out.c0; have z1 := TZ2.out.c1; have f0 := TZ2.out.z0; have f1 := TZ2.out.z1
      go_simp
      have hle : wb.heap.size ≤ w1.heap.size := by have := R1.out.size; omega
      have R4 : Hid (Below wb.heap.size wb ((w2.setCell ⟨w1.heap.size, 0, none⟩ (.int .u64 ta)).setCell ⟨w1.heap.size, 1, none⟩ (.int .u64 tf))) := Lib.hid ((R2.out.setCell (p := ⟨w1.heap.size, 0, none⟩) hle _).setCell (p := ⟨w1.heap.size, 1, none⟩) hle _)
      have TZ4 : Hid (TmIn ((w2.setCell ⟨w1.heap.size, 0, none⟩ (.int .u64 ta)).setCell ⟨w1.heap.size, 1, none⟩ (.int .u64 tf)) w1.heap.size ta tf) := Lib.hid (TZ2.out.put ta tf)
      clear z0 z1 f0 f1
      generalize ((w2.setCell ⟨w1.heap.size, 0, none⟩ (.int .u64 ta)).setCell ⟨w1.heap.size, 1, none⟩ (.int .u64 tf)) = w4 at *
      refine hKq.out _ _ ?_ (fun hHeld => ?_)
      · exact HC.out _ R4.out
      clear hKq Kq
      (try simp only [Act.put, tC, tD, tE])
      refine tA 13 ⟨some 6, .assign (.tmp 20), 23, "worlds.go:85", #[⟨10, .data⟩, ⟨12, .chain⟩, ⟨0, .phase⟩, ⟨1, .phase⟩, ⟨2, .phase⟩, ⟨3, .phase⟩, ⟨4, .phase⟩, ⟨5, .phase⟩, ⟨6, .phase⟩, ⟨7, .phase⟩, ⟨8, .phase⟩, ⟨9, .phase⟩, ⟨10, .phase⟩, ⟨11, .phase⟩, ⟨12, .phase⟩], none⟩ ?vax11 ?rax11
      (try simp only [Act.put, tC, tD, tE])
      refine wpAnyH_done (by kernel_rfl) ?_ _
      exact ⟨w1.heap.size, rfl, R4.out, hle, TZ4.out⟩
    refine AllReadyH.cons (o := ⟨some 5, .alloc 100, 0, "worlds.go:85", #[], none⟩) rfl (fun Kq hKq => ?_) AllReadyH.nil
    go_simp
    have R1 : Hid (Below wb.heap.size wb ((wb.alloc (.cells #[.int .u64 0, .int .u64 0] 100)).drew)) := Lib.hid (((Below.refl _ _).alloc (Nat.le_refl _) _).drew)
    have TZ1 : Hid (TmIn ((wb.alloc (.cells #[.int .u64 0, .int .u64 0] 100)).drew) wb.heap.size 0 0) := Lib.hid (TmIn.made wb 0 0)
    generalize (wb.alloc (.cells #[.int .u64 0, .int .u64 0] 100)).drew = w1 at *
    refine hKq.out _ _ ?_ (fun hHeld => ?_)
    · exact HC.out _ R1.out
    clear hKq Kq
    (try simp only [Act.put, tC, tD, tE])
    refine wpAnyH_ready (rs := [5]) (by kernel_rfl) (by simp) ?_
    refine AllReadyH.cons (o := ⟨some 15, .call ⟨.value (.func 35), #[.tmp 13, .tmp 14], #[43, 97]⟩, 100, "worlds.go:85", #[⟨3, .data⟩, ⟨4, .data⟩], none⟩) rfl (fun Kq hKq => ?_) AllReadyH.nil
    go_simp
    (refine (HTI.out _ R1.out).mono ?_; rintro e w2 ⟨rfl, hb2⟩)
    have R2 : Hid (Below wb.heap.size wb w2) := Lib.hid (R1.out.trans (hb2.mono R1.out.size))
    have TZ2 := Lib.hid (TZ1.out.new hb2)
    clear hb2
    refine hKq.out _ _ ?_ (fun hHeld => ?_)
    · exact HC.out _ R2.out
    clear hKq Kq
    (try simp only [Act.put, tC, tD, tE])
    refine wpAnyH_ready (rs := [10]) (by kernel_rfl) (by simp) ?_
    refine AllReadyH.cons (o := ⟨some 20, .call ⟨.value (.func 72), #[.tmp 19], #[40]⟩, 23, "worlds.go:85", #[⟨9, .data⟩, ⟨5, .chain⟩], none⟩) rfl (fun Kq hKq => ?_) AllReadyH.nil
    go_simp
    (refine (HNOW.out _ R2.out).mono ?_; rintro e w3 ⟨rfl, rfl⟩)
    refine hKq.out _ _ ?_ (fun hHeld => ?_)
    · exact HC.out _ R2.out
    clear hKq Kq
    (try simp only [Act.put, tC, tD, tE])
    refine wpAnyH_ready (rs := [12]) (by kernel_rfl) (by simp) ?_
    refine AllReadyH.cons (o := ⟨none, .store 100 (.tmp 5) (.tmp 15), 0, "worlds.go:85", #[⟨11, .data⟩, ⟨5, .data⟩, ⟨10, .chain⟩, ⟨0, .phase⟩, ⟨1, .phase⟩, ⟨2, .phase⟩, ⟨3, .phase⟩, ⟨4, .phase⟩, ⟨5, .phase⟩, ⟨6, .textOnly .lateStores⟩, ⟨7, .textOnly .lateStores⟩, ⟨8, .textOnly .lateStores⟩, ⟨9, .textOnly .lateStores⟩, ⟨10, .textOnly .lateStoresUnsure⟩, ⟨11, .phase⟩], none⟩) rfl (fun Kq hKq => ?_) AllReadyH.nil
    have z0 := TZ2.out.c0; have z1 := TZ2.out.c1; have f0 := TZ2.out.z0; have f1 := TZ2.out.z1
    go_simp
    have hle : wb.heap.size ≤ wb.heap.size := by have := Nat.le_refl wb.heap.size; omega
    have R4 : Hid (Below wb.heap.size wb ((w2.setCell ⟨wb.heap.size, 0, none⟩ (.int .u64 ta)).setCell ⟨wb.heap.size, 1, none⟩ (.int .u64 tf))) := Lib.hid ((R2.out.setCell (p := ⟨wb.heap.size, 0, none⟩) hle _).setCell (p := ⟨wb.heap.size, 1, none⟩) hle _)
    have TZ4 : Hid (TmIn ((w2.setCell ⟨wb.heap.size, 0, none⟩ (.int .u64 ta)).setCell ⟨wb.heap.size, 1, none⟩ (.int .u64 tf)) wb.heap.size ta tf) := Lib.hid (TZ2.out.put ta tf)
    clear z0 z1 f0 f1
    generalize ((w2.setCell ⟨wb.heap.size, 0, none⟩ (.int .u64 ta)).setCell ⟨wb.heap.size, 1, none⟩ (.int .u64 tf)) = w4 at *
    refine hKq.out _ _ ?_ (fun hHeld => ?_)
    · exact HC.out _ R4.out
    clear hKq Kq
    (try simp only [Act.put, tC, tD, tE])
    refine tA 13 ⟨some 6, .assign (.tmp 20), 23, "worlds.go:85", #[⟨10, .data⟩, ⟨12, .chain⟩, ⟨0, .phase⟩, ⟨1, .phase⟩, ⟨2, .phase⟩, ⟨3, .phase⟩, ⟨4, .phase⟩, ⟨5, .phase⟩, ⟨6, .phase⟩, ⟨7, .phase⟩, ⟨8, .phase⟩, ⟨9, .phase⟩, ⟨10, .phase⟩, ⟨11, .phase⟩, ⟨12, .phase⟩], none⟩ ?vax12 ?rax12
    (try simp only [Act.put, tC, tD, tE])
    refine wpAnyH_done (by kernel_rfl) ?_ _
    exact ⟨wb.heap.size, rfl, R4.out, hle, TZ4.out⟩
  · rintro e a2 w2 hq
    cases e <;> try exact hq.elim
    obtain ⟨Bx, rfl, hb2, hle, htz⟩ := hq
    (try dsimp only)
    have TZ := Lib.hid htz
    have z0 := htz.c0; have z1 := htz.c1
    have HB2 := Lib.hid hb2; have HLE := Lib.hid hle
    clear htz hb2 hle
    have hd := HDD.out
    rw [decide_eq_false hd] at HDUE
    go_wp2_with (go_at_call 227; refine (HDUE.out _).mono ?_; rintro e w3 ⟨rfl, b3⟩)
    go_ret
    exact ⟨rfl, HF.out w3 (HB2.out.trans (b3.mono HB2.out.size))⟩
end
end Go.Proofs.YtieiiabbeglmfaaGreatDoor.S12
set_option linter.unusedVariables false
set_option linter.unusedSimpArgs false
set_option linter.unusedVariables false
set_option linter.unusedSimpArgs false
namespace Go.Proofs.YtieiiabbeglmfaaGreatDoor.S18
open Go.Proofs.YtieiiabbeglmfaaGreatDoor Go.Proofs.YtieiiabbeglmfaaGreatDoor.S11 Go.Proofs.YtieiiabbeglmfaaGreatDoor.S12 Go.Proofs.YtieiiabbeglmfaaGreatDoor.S13 Go.Proofs.YtieiiabbeglmfaaGreatDoor.S14 Go.Proofs.YtieiiabbeglmfaaGreatDoor.S15 Go.Proofs.YtieiiabbeglmfaaGreatDoor.S16
open Go.RowKit
section
variable {w0 w w' : World} {base WB : Nat} {M : Sd} {r : List Part} {j e u B : Nat} {l l' : Rows} {X : Wm} {P : Pa}
end
end Go.Proofs.YtieiiabbeglmfaaGreatDoor.S18
set_option linter.unusedVariables false
set_option linter.unusedSimpArgs false
set_option linter.unusedVariables false
set_option linter.unusedSimpArgs false
namespace Go.Proofs.YtieiiabbeglmfaaGreatDoor.S18
open Go.Proofs.YtieiiabbeglmfaaGreatDoor Go.Proofs.YtieiiabbeglmfaaGreatDoor.S11 Go.Proofs.YtieiiabbeglmfaaGreatDoor.S12 Go.Proofs.YtieiiabbeglmfaaGreatDoor.S13 Go.Proofs.YtieiiabbeglmfaaGreatDoor.S14 Go.Proofs.YtieiiabbeglmfaaGreatDoor.S15 Go.Proofs.YtieiiabbeglmfaaGreatDoor.S16
open Go.RowKit
section
variable {M : Sd} {D : Pd} {a pi : Nat} {Q : List S10.Ent} {E : En} {F : Fr}
end
end Go.Proofs.YtieiiabbeglmfaaGreatDoor.S18
set_option linter.unusedVariables false
set_option linter.unusedSimpArgs false
set_option linter.unusedVariables false
set_option linter.unusedSimpArgs false
namespace Go.Proofs.YtieiiabbeglmfaaGreatDoor.S18
open Go.Proofs.YtieiiabbeglmfaaGreatDoor Go.Proofs.YtieiiabbeglmfaaGreatDoor.S11 Go.Proofs.YtieiiabbeglmfaaGreatDoor.S12 Go.Proofs.YtieiiabbeglmfaaGreatDoor.S13 Go.Proofs.YtieiiabbeglmfaaGreatDoor.S14 Go.Proofs.YtieiiabbeglmfaaGreatDoor.S15 Go.Proofs.YtieiiabbeglmfaaGreatDoor.S16
open Go.RowKit
section
variable {M : Sd} {D : Pd} {pb pi : Nat} {E : En} {F : Fr}
structure Stays (M M' : Sd) (i : Nat) : Prop where
  L : M'.L = M.L
  m : M'.m = M.m
  nD : M'.nD = M.nD
  T : M'.T = M.T
  sp : M'.sp = M.sp
  pf : ∀ j, j ≠ i → M'.pf j = M.pf j
  p : (M'.pf i).p = false
theorem stay1 (hon : D.on = false) (hp : (M.pf (2 * D.t)).p = false) : pit (M, (⟨8, D, pb, pi, E, F, 0, 0⟩ : Pa)) = (M.park (2 * D.t), (⟨8, D, pb, pi, E, F, 0, 0⟩ : Pa)) := by
  have hg : slpG M D = 0 := by
    unfold slpG
    rw [hon, if_neg (by decide), hp, if_neg (by decide)]
  show ((if D.on then M.until (2 * D.t) D.at' else M.park (2 * D.t)), (if slpG M D = 0 then (⟨8, D, pb, pi, E, F, 0, 0⟩ : Pa) else if slpG M D = 2 then ⟨9, D, pb, pi, ow0 D.t, F, 0, 0⟩ else ⟨0, D, pb, pi, E, F, 0, 2⟩)) = _
  rw [hon, if_neg (by decide), if_pos hg]
theorem park_p {M : Sd} {i : Nat} (hp : (M.pf i).p = false) : ((M.park i).pf i).p = false := by
  show (S4.updP M.pf i (S4.parkK (M.pf i)) i).p = false
  unfold S4.updP S4.parkK
  rw [if_pos rfl, hp, if_neg (by decide)]
theorem park_ne {M : Sd} {i j : Nat} (h : j ≠ i) : (M.park i).pf j = M.pf j := by
  show S4.updP M.pf i (S4.parkK (M.pf i)) j = _
  unfold S4.updP
  exact if_neg h
theorem stays (hon : D.on = false) (hp : (M.pf (2 * D.t)).p = false) : ∀ n, ∃ M', pitn (M, (⟨8, D, pb, pi, E, F, 0, 0⟩ : Pa)) n = (M', (⟨8, D, pb, pi, E, F, 0, 0⟩ : Pa)) ∧ Stays M M' (2 * D.t)
  | 0 => ⟨M, rfl, rfl, rfl, rfl, rfl, rfl, fun _ _ => rfl, hp⟩
  | n + 1 => by
    obtain ⟨M', e, s⟩ := stays hon hp n
    refine ⟨M'.park (2 * D.t), ?_, s.L, s.m, s.nD, s.T, s.sp, fun j hj => (park_ne hj).trans (s.pf j hj), park_p s.p⟩
    show pit (pitn (M, (⟨8, D, pb, pi, E, F, 0, 0⟩ : Pa)) n) = _
    rw [e]
    exact stay1 hon s.p
end
end Go.Proofs.YtieiiabbeglmfaaGreatDoor.S18
namespace Go.Proofs.YtieiiabbeglmfaaGreatDoor.S19
abbrev Rows := Go.Proofs.YtieiiabbeglmfaaGreatDoor.S18.Rows
end Go.Proofs.YtieiiabbeglmfaaGreatDoor.S19
set_option linter.unusedVariables false
set_option linter.unusedSimpArgs false
namespace Go.Proofs.YtieiiabbeglmfaaGreatDoor.S12
open Go.Proofs.YtieiiabbeglmfaaGreatDoor Go.Proofs.YtieiiabbeglmfaaGreatDoor.S11
def Sd.tok (M : Sd) (t z : Nat) : Sd := { M with tk := updT M.tk t z }
end Go.Proofs.YtieiiabbeglmfaaGreatDoor.S12
namespace Go.Proofs.YtieiiabbeglmfaaGreatDoor.S19
open Go.Proofs.YtieiiabbeglmfaaGreatDoor Go.Proofs.YtieiiabbeglmfaaGreatDoor.S11 Go.Proofs.YtieiiabbeglmfaaGreatDoor.S12 Go.Proofs.YtieiiabbeglmfaaGreatDoor.S13 Go.Proofs.YtieiiabbeglmfaaGreatDoor.S14 Go.Proofs.YtieiiabbeglmfaaGreatDoor.S15 Go.Proofs.YtieiiabbeglmfaaGreatDoor.S16 Go.Proofs.YtieiiabbeglmfaaGreatDoor.S18
open Go.RowKit
section
variable {w0 w w' : World} {base WB : Nat} {M : Sd} {r : List Part} {j e u B : Nat} {l l' : Rows} {X : Wm}
theorem tok_at (h : Pg w0 w base WB M r X) {t : Nat} (ht : t < 64) : w.cell? ⟨WB, 7 + t, none⟩ = some (.int .u64 ((M.tk t : Nat) : Int)) := by
  rw [← h.wB, ← h.xm]
  exact (cell_row h.pw.own (7 + t)).trans (pct _ _ _ _ _ _ _ _ ht)
theorem tok_fz (h : Pg w0 w base WB M r X) (t : Nat) : w.frozen? ⟨WB, 7 + t, none⟩ = false := by
  rw [← h.wB]
  exact froz_row h.pw.own (7 + t)
theorem tok_put (h : Pg w0 w base WB M r X) {t : Nat} (ht : t < 64) (z : Nat) : ∃ X', Pg w0 (w.setCell ⟨WB, 7 + t, none⟩ (.int .u64 (z : Int))) base WB (M.tok t z) r X' ∧ X'.pB = X.pB := by
  have e := h.wB
  have hB := h.pw.own
  rw [e] at hB
  have h1 : (w.setCell ⟨WB, 7 + t, none⟩ (.int .u64 (z : Int))).heap[WB]? = some (.cells (Wm.cs { X with tk := updT X.tk t z }) 47 (0, 0)) := set_blk hB (7 + t) (.int .u64 (z : Int)) _ (by unfold Wm.cs; exact pctw _ _ _ _ _ _ _ _ ht z)
  obtain ⟨hp, hb⟩ := h.ps.turn (i := 6) rfl (blockP WB (.cells (Wm.cs { X with tk := updT X.tk t z }) 47)) h1 ((Turns.refl (fun k => k = X.wB) w).setCell ⟨WB, 7 + t, none⟩ _ e.symm) (fun k hk => .inl (hk.trans e.symm))
  refine ⟨{ X with tk := updT X.tk t z }, ⟨?_, e, ?_, h.bl.trans hb⟩, rfl⟩
  · have e2 : (X.parts ++ r).set 6 (blockP WB (.cells (Wm.cs { X with tk := updT X.tk t z }) 47)) = Wm.parts { X with tk := updT X.tk t z } ++ r := by rw [← e]; rfl
    rw [← e2]; exact hp
  · rw [← h.xm]; rfl
end
end Go.Proofs.YtieiiabbeglmfaaGreatDoor.S19
set_option linter.unusedVariables false
set_option linter.unusedSimpArgs false
namespace Go.Proofs.YtieiiabbeglmfaaGreatDoor.S19
open Go.Proofs.YtieiiabbeglmfaaGreatDoor Go.Proofs.YtieiiabbeglmfaaGreatDoor.S11 Go.Proofs.YtieiiabbeglmfaaGreatDoor.S12 Go.Proofs.YtieiiabbeglmfaaGreatDoor.S13 Go.Proofs.YtieiiabbeglmfaaGreatDoor.S14 Go.Proofs.YtieiiabbeglmfaaGreatDoor.S15 Go.Proofs.YtieiiabbeglmfaaGreatDoor.S16 Go.Proofs.YtieiiabbeglmfaaGreatDoor.S18
open Go.RowKit
structure Od where
  t : Nat
  k : Nat
  z : Nat
structure Ro where
  m : Nat
  more : Bool
  fair : Bool
  th : Int
def ro0 : Ro := ⟨0, false, false, 0⟩
def roN : Ro := ⟨0, false, false, -1⟩
structure On where
  ln : Nat
  D : Od
  told : Bool
  R : Ro
  E : En
  F : Fr
def on0 (D : Od) : On := ⟨1, D, false, ro0, en0 D.t D.k, fr0 0⟩
def fireB (M : Sd) (pb : Int) (pi : Nat) : Bool := decide ((M.m pb)[pi]!.a < (M.T : Int))
def fireM (M : Sd) (pb : Int) (pi : Nat) : Sd :=
  if fireB M pb pi = true then { M with D := M.D.tail, m := S10.upd M.m pb ((M.m pb).set pi { (M.m pb)[pi]! with a := ((S8.sat M.T (drawN M.D M.most) : Nat) : Int), f := (M.T : Int) }) } else M
def takeI (M : Sd) (pb : Int) (pi ky : Nat) : Int := S10.idx (S10.byKey (ky : Int)) (qAt M pb pi)
def takeB (M : Sd) (pb : Int) (pi ky : Nat) : Bool := S10.cutB (qAt M pb pi) (takeI M pb pi ky)
def takeL (M : Sd) (pb : Int) (pi ky : Nat) : List S10.Ent := S10.cutL (qAt M pb pi) (takeI M pb pi ky)
def takeW (M : Sd) (pb : Int) (pi ky : Nat) : Int := (S10.cutE (qAt M pb pi) (takeI M pb pi ky)).t
def takeN (M : Sd) (t : Nat) (pb : Int) (pi ky : Nat) : Sd :=
  (M.putq pb pi (takeL M pb pi ky)).note ⟨((M.n + M.pn : Nat) : Int), (t : Int), 2, (ky : Int), takeW M pb pi ky, 0, 0⟩
def takeM (M : Sd) (t : Nat) (pb : Int) (pi ky : Nat) : Sd := if takeB M pb pi ky = true then fireM (takeN M t pb pi ky) pb pi else M
def takeR (M : Sd) (t : Nat) (pb : Int) (pi ky : Nat) : Ro :=
  if takeB M pb pi ky = true then ⟨1, decide (0 ≤ S10.idx (S10.byKey (ky : Int)) (takeL M pb pi ky)), fireB (takeN M t pb pi ky) pb pi, takeW M pb pi ky⟩ else roN
def unpM (M : Sd) (P : On) : Sd := (M.unpark (2 * P.R.th.toNat)).tok P.R.th.toNat P.D.z
def onM (M : Sd) (P : On) : Sd :=
  match P.ln with
  | 1 => if (enE M P.E).ln = 0 then takeM (enM M P.E) P.D.t (bitsN (enE M P.E).tw : Int) (bktN P.D.k (enE M P.E).tw) P.D.k else enM M P.E
  | 3 => unpM M P
  | 4 => fstepM M P.F
  | _ => M
def onE (M : Sd) (P : On) : On :=
  match P.ln with
  | 1 => if (enE M P.E).ln = 0 then ⟨if takeB (enM M P.E) (bitsN (enE M P.E).tw : Int) (bktN P.D.k (enE M P.E).tw) P.D.k = true then 3 else 4, P.D, true, takeR (enM M P.E) P.D.t (bitsN (enE M P.E).tw : Int) (bktN P.D.k (enE M P.E).tw) P.D.k, enE M P.E, fr0 (plA (bitsN (enE M P.E).tw) (bktN P.D.k (enE M P.E).tw))⟩ else { P with E := enE M P.E }
  | 3 => { P with ln := 4 }
  | 4 => if (fstepK M P.F).ln = 0 then { P with ln := 0, F := fstepK M P.F } else { P with F := fstepK M P.F }
  | _ => P
structure OnOk (P : On) : Prop where
  ln : P.ln ≤ 4
  l2 : P.ln ≠ 2
  t : P.D.t < 64
  k : P.D.k < 4294967296
  z : P.D.z < 18446744073709551616
  e : EnOk P.E
  e1 : P.ln = 1 → P.E.ow = false
  ek : P.E.kw = P.D.k
  f : FOk P.F
  td : P.ln ≠ 1 → P.told = true
  t1 : P.ln = 1 → P.told = false ∧ P.R = ro0
  m3 : P.ln = 3 → P.R.m = 1
theorem ok_on {D : Od} (ht : D.t < 64) (hk : D.k < 4294967296) (hz : D.z < 18446744073709551616) : OnOk (on0 D) :=
  ⟨by show 1 ≤ 4; omega, by show 1 ≠ 2; omega, ht, hk, hz, ok_en ht (by omega), fun _ => rfl, rfl, fok_new (by omega), fun h => absurd rfl h, fun _ => ⟨rfl, rfl⟩, fun h => absurd h (by show ¬ 1 = 3; omega)⟩
theorem enE_kw2 {M : Sd} {E : En} (ok : EnOk E) (h : E.ow = false) : (enE M E).kw = E.kw := by
  have h1 := (ok.en h).1
  unfold enE
  split <;> (try split) <;> first | rfl | (rename_i e; exact absurd e h1)
theorem OnOk.step {M : Sd} {P : On} (h : OnOk P) (ms : 0 ≤ M.sp ∧ M.sp ≤ 16) (hl : ∀ a, S2.look M.L a < 18446744073709551616) (hk : ∀ i, M.lk i ≤ 64) : OnOk (onE M P) := by
  obtain ⟨ln, D, told, R, E, F⟩ := P
  have hln : ln ≤ 4 := h.ln
  have h2 : ln ≠ 2 := h.l2
  have ht : D.t < 64 := h.t
  have hk1 : D.k < 4294967296 := h.k
  have hz : D.z < 18446744073709551616 := h.z
  have hkw : E.kw = D.k := h.ek
  rcases (show ln = 0 ∨ ln = 1 ∨ ln = 3 ∨ ln = 4 by omega) with rfl | rfl | rfl | rfl
  · exact h
  · have hE := h.e.step ms hl hk
    have hO : (enE M E).ow = false := (enE_ow M E).1.trans (h.e1 rfl)
    have hK : (enE M E).kw = D.k := (enE_kw2 h.e (h.e1 rfl)).trans hkw
    show OnOk (if (enE M E).ln = 0 then _ else _)
    by_cases h0 : (enE M E).ln = 0
    · rw [if_pos h0]
      obtain ⟨b, hb⟩ : ∃ b, b = takeB (enM M E) (bitsN (enE M E).tw : Int) (bktN D.k (enE M E).tw) D.k := ⟨_, rfl⟩
      have hm : b = true → (takeR (enM M E) D.t (bitsN (enE M E).tw : Int) (bktN D.k (enE M E).tw) D.k).m = 1 := fun e => by unfold takeR; rw [← hb, if_pos e]
      show OnOk ⟨if takeB (enM M E) (bitsN (enE M E).tw : Int) (bktN D.k (enE M E).tw) D.k = true then 3 else 4, D, true, takeR (enM M E) D.t (bitsN (enE M E).tw : Int) (bktN D.k (enE M E).tw) D.k, enE M E, fr0 (plA (bitsN (enE M E).tw) (bktN D.k (enE M E).tw))⟩
      rw [← hb]
      generalize takeR (enM M E) D.t (bitsN (enE M E).tw : Int) (bktN D.k (enE M E).tw) D.k = Rr at *
      have hf := fok_new (plA_lt (bitsN (enE M E).tw) (bktN D.k (enE M E).tw))
      cases b
      · exact ⟨by show 4 ≤ 4; omega, by show 4 ≠ 2; omega, ht, hk1, hz, hE, fun e => absurd e (by show ¬ 4 = 1; omega), hK, hf, fun _ => rfl, fun e => absurd e (by show ¬ 4 = 1; omega), fun e => absurd e (by show ¬ 4 = 3; omega)⟩
      · exact ⟨by show 3 ≤ 4; omega, by show 3 ≠ 2; omega, ht, hk1, hz, hE, fun e => absurd e (by show ¬ 3 = 1; omega), hK, hf, fun _ => rfl, fun e => absurd e (by show ¬ 3 = 1; omega), fun _ => hm rfl⟩
    · rw [if_neg h0]
      exact ⟨by show 1 ≤ 4; omega, by show 1 ≠ 2; omega, ht, hk1, hz, hE, fun _ => hO, hK, h.f, fun e => absurd rfl e, fun _ => h.t1 rfl, fun e => absurd e (by show ¬ 1 = 3; omega)⟩
  · exact ⟨by show 4 ≤ 4; omega, by show 4 ≠ 2; omega, ht, hk1, hz, h.e, fun e => absurd e (by show ¬ 4 = 1; omega), hkw, h.f, fun _ => h.td (by show 3 ≠ 1; omega), fun e => absurd e (by show ¬ 4 = 1; omega), fun e => absurd e (by show ¬ 4 = 3; omega)⟩
  · have htd := h.td (by show 4 ≠ 1; omega)
    have hF := h.f.step (M := M) hl hk
    show OnOk (if (fstepK M F).ln = 0 then _ else _)
    by_cases h0 : (fstepK M F).ln = 0
    · rw [if_pos h0]
      exact ⟨by show 0 ≤ 4; omega, by show 0 ≠ 2; omega, ht, hk1, hz, h.e, fun e => absurd e (by show ¬ 0 = 1; omega), hkw, hF, fun _ => htd, fun e => absurd e (by show ¬ 0 = 1; omega), fun e => absurd e (by show ¬ 0 = 3; omega)⟩
    · rw [if_neg h0]
      exact ⟨by show 4 ≤ 4; omega, by show 4 ≠ 2; omega, ht, hk1, hz, h.e, fun e => absurd e (by show ¬ 4 = 1; omega), hkw, hF, fun _ => htd, fun e => absurd e (by show ¬ 4 = 1; omega), fun e => absurd e (by show ¬ 4 = 3; omega)⟩
def oit (p : Sd × On) : Sd × On := (onM p.1 p.2, onE p.1 p.2)
def oitn (p : Sd × On) : Nat → Sd × On
  | 0 => p
  | n + 1 => oit (oitn p n)
theorem oitn_add (p : Sd × On) (m : Nat) : ∀ n, oitn p (m + n) = oitn (oitn p m) n
  | 0 => rfl
  | n + 1 => by
    show oit (oitn p (m + n)) = oit (oitn (oitn p m) n)
    rw [oitn_add p m n]
theorem fireM_n (M : Sd) (pb : Int) (pi : Nat) : (fireM M pb pi).n = M.n ∧ (fireM M pb pi).pn = M.pn ∧ (fireM M pb pi).sp = M.sp := by
  unfold fireM
  split <;> exact ⟨rfl, rfl, rfl⟩
theorem takeM_n (M : Sd) (t : Nat) (pb : Int) (pi ky : Nat) : (takeM M t pb pi ky).n = M.n ∧ (takeM M t pb pi ky).pn = M.pn ∧ (takeM M t pb pi ky).sp = M.sp := by
  unfold takeM
  split
  · have := fireM_n (takeN M t pb pi ky) pb pi
    exact ⟨this.1.trans rfl, this.2.1.trans rfl, this.2.2.trans rfl⟩
  · exact ⟨rfl, rfl, rfl⟩
theorem onM_n (M : Sd) (P : On) : (onM M P).n ≤ M.n + 1 ∧ (onM M P).pn ≤ M.pn + 1 ∧ (onM M P).sp = M.sp := by
  unfold onM
  split
  · have h := enM_n M P.E
    split
    · have := takeM_n (enM M P.E) P.D.t (bitsN (enE M P.E).tw : Int) (bktN P.D.k (enE M P.E).tw) P.D.k
      rw [this.1, this.2.1, this.2.2]; exact h
    · exact h
  · unfold unpM
    simp [Sd.tok, Sd.unpark, Sd.call]
  · exact ⟨(fstepM_n M P.F).1, (fstepM_n M P.F).2, fstepM_sp M P.F⟩
  · simp
theorem oitn_n (p : Sd × On) : ∀ n, (oitn p n).1.n ≤ p.1.n + n ∧ (oitn p n).1.pn ≤ p.1.pn + n ∧ (oitn p n).1.sp = p.1.sp
  | 0 => ⟨Nat.le_refl _, Nat.le_refl _, rfl⟩
  | n + 1 => by
    have h := oitn_n p n
    have g := onM_n (oitn p n).1 (oitn p n).2
    exact ⟨by show (onM _ _).n ≤ _; omega, by show (onM _ _).pn ≤ _; omega, g.2.2.trans h.2.2⟩
theorem oit_way {M : Sd} {P : On} (hl : P.ln = 1) (h : (enE M P.E).ln ≠ 0) : oit (M, P) = (enM M P.E, { P with E := enE M P.E }) := by
  obtain ⟨ln, D, told, R, E, F⟩ := P
  obtain rfl : ln = 1 := hl
  have h' : ¬ (enE M E).ln = 0 := h
  show (if (enE M E).ln = 0 then _ else enM M E, if (enE M E).ln = 0 then _ else _) = _
  rw [if_neg h', if_neg h']
theorem oitn_way {M : Sd} {P : On} (hl : P.ln = 1) : ∀ n, (∀ i, i ≤ n → i ≠ 0 → (eitn (M, P.E) i).2.ln ≠ 0) → oitn (M, P) n = ((eitn (M, P.E) n).1, { P with E := (eitn (M, P.E) n).2 })
  | 0, _ => rfl
  | n + 1, h => by
    have h1 := oitn_way hl n (fun i hi => h i (by omega))
    show oit (oitn (M, P) n) = _
    rw [h1]
    exact oit_way (P := { P with E := (eitn (M, P.E) n).2 }) hl (h (n + 1) (Nat.le_refl _) (by omega))
section
variable {M : Sd} {D : Od} {a pi : Nat} {Q : List S10.Ent}
def oneM (M : Sd) (D : Od) (a pi : Nat) : Sd := takeM (mE M a 2) D.t ((2 : Nat) : Int) pi D.k
def oneR (M : Sd) (D : Od) (a pi : Nat) : Ro := takeR (mE M a 2) D.t ((2 : Nat) : Int) pi D.k
def oneB (M : Sd) (D : Od) (a pi : Nat) : Bool := takeB (mE M a 2) ((2 : Nat) : Int) pi D.k
theorem orun_in (h : Pl M D.k a pi Q) (hk : D.k < 4294967296) :
    (∀ i, i < 3 → (oitn (M, on0 D) i).2.ln = 1 ∧ oitn (M, on0 D) i = ((eitn (M, en0 D.t D.k) i).1, { on0 D with E := (eitn (M, en0 D.t D.k) i).2 })) ∧
    ∃ E3, oitn (M, on0 D) 3 = (oneM M D a pi, ⟨if oneB M D a pi = true then 3 else 4, D, true, oneR M D a pi, E3, fr0 a⟩) := by
  have ek : D.k % 4294967296 = D.k := Nat.mod_eq_of_lt hk
  obtain ⟨g1, g2, g3, g4, g5, g6⟩ := en3 (t := D.t) (key := D.k) h.x (by rw [ek]; exact h.ae) h.a0
  have gx := en3x (t := D.t) (key := D.k) h.x (by rw [ek]; exact h.ae) h.a0
  have hw := fun n (hn : n ≤ 2) => oitn_way (M := M) (P := on0 D) rfl n (fun i hi _ => g1 i (by omega))
  refine ⟨fun i hi => ⟨by rw [hw i (by omega)]; rfl, hw i (by omega)⟩, (eitn (M, en0 D.t D.k) 3).2, ?_⟩
  have h2 := hw 2 (Nat.le_refl _)
  show oit (oitn (M, on0 D) 2) = _
  rw [h2]
  have e3 : enE (eitn (M, en0 D.t D.k) 2).1 (eitn (M, en0 D.t D.k) 2).2 = (eitn (M, en0 D.t D.k) 3).2 := rfl
  have m3 : enM (eitn (M, en0 D.t D.k) 2).1 (eitn (M, en0 D.t D.k) 2).2 = (eitn (M, en0 D.t D.k) 3).1 := rfl
  have c : ∀ (M2 : Sd) (E2 : En), (enE M2 E2).ln = 0 → oit (M2, { on0 D with E := E2 }) = (takeM (enM M2 E2) D.t (bitsN (enE M2 E2).tw : Int) (bktN D.k (enE M2 E2).tw) D.k, ⟨if takeB (enM M2 E2) (bitsN (enE M2 E2).tw : Int) (bktN D.k (enE M2 E2).tw) D.k = true then 3 else 4, D, true, takeR (enM M2 E2) D.t (bitsN (enE M2 E2).tw : Int) (bktN D.k (enE M2 E2).tw) D.k, enE M2 E2, fr0 (plA (bitsN (enE M2 E2).tw) (bktN D.k (enE M2 E2).tw))⟩) := fun M2 E2 h0 => by
    show (if (enE M2 E2).ln = 0 then _ else _, if (enE M2 E2).ln = 0 then _ else _) = _
    rw [if_pos h0, if_pos h0]
    rfl
  have q := c (eitn (M, en0 D.t D.k) 2).1 (eitn (M, en0 D.t D.k) 2).2 (by rw [e3]; exact g2)
  refine q.trans ?_
  rw [m3, e3, g4, bits2, gx, ← h.pe, h.pl]
  rfl
end
end Go.Proofs.YtieiiabbeglmfaaGreatDoor.S19
