/- Texts of this seat, one behind the other. -/
import Derived.Test.YtieiiabbeglmfaaGreatDoorMLawFair201
import Derived.Test.YtieiiabbeglmfaaGreatDoorMLawFair2043
import Derived.Test.YtieiiabbeglmfaaGreatDoorMLawFair2044
import Derived.Deep.RegionLaw
set_option linter.unusedVariables false
set_option linter.unusedSimpArgs false
set_option linter.unusedVariables false
set_option linter.unusedSimpArgs false
namespace Go.Proofs.YtieiiabbeglmfaaGreatDoor.S12
set_option maxRecDepth 100000
set_option maxHeartbeats 16000000
open Go.Proofs.YtieiiabbeglmfaaGreatDoor Go.Proofs.YtieiiabbeglmfaaGreatDoor.S11
open Go.RowKit
section
variable {w0 w w' : World} {base WB : Nat} {M : Sd} {r : List Part} {X : Wm}
theorem Pg.draw_ (h : Pg w0 w base WB M r X) : Calls Tryz.prog 229 #[Pw X.kB] w fun e w' => e = .returned (.int .u64 (drawN X.D X.most : Nat)) ∧ ∃ s, Pg w0 w' base WB { M with D := X.D.tail } r { X with ks := s, D := X.D.tail } ∧ s.ownBlock = X.ks.ownBlock ∧ Turns (fun k => k = X.kB) w w' := by
  have hc := h.pw.clock
  cases hD : X.D with
  | nil =>
    rw [hD] at hc
    refine (S3.draw_none hc).mono ?_
    rintro e w' ⟨rfl, rfl⟩
    refine ⟨rfl, X.ks, ?_, rfl, Turns.refl _ _⟩
    have e1 : ({ X with ks := X.ks, D := [].tail } : Wm) = X := by cases X; dsimp only at hD; subst hD; rfl
    have e2 : ({ M with D := [].tail } : Sd) = M := by
      have : M.D = [] := by rw [← h.xm]; exact hD
      cases M; dsimp only at this; subst this; rfl
    rw [e1, e2]
    exact h
  | cons d D =>
    rw [hD] at hc
    refine (S3.draw_some hc).mono ?_
    rintro e w' ⟨rfl, s', c', ho, t⟩
    obtain ⟨hp, hb⟩ := t_clock (i := 1) h.ps rfl c' (fun g hg => .inl (by rw [← ho]; exact hg)) (t.mono (fun k _ e => .inl e))
    refine ⟨rfl, s', ⟨hp, h.wB, ?_, h.bl.trans hb⟩, ho, ⟨t.os, t.tape, t.output, t.size, t.block⟩⟩
    rw [← h.xm]; rfl
theorem Pg.putT_ (h : Pg w0 w base WB M r X) {b : Int} (hb : S10.InI b) {ni : Nat} (hi : ni < (M.m b).length) (ta tf : Int) :
    Calls Tryz.prog 34 #[X.ts, .agg #[.int .i64 b, .int .i64 (ni : Int)], .agg #[.int .u64 ta, .int .u64 tf]] w fun e w' => e = .returned (.bool true) ∧ ∃ X', Pg w0 w' base WB { M with m := S10.upd M.m b ((M.m b).set ni { (M.m b)[ni]! with a := ta, f := tf }) } r X' ∧ X'.ts = X.ts := by
  have hs := h.pw.tables
  have eM : X.tM = M.m := congrArg Sd.m h.xm
  rw [eM] at hs
  have ee2 : (X.parts ++ r)[4]? = some (tablesP X.tb X.tO X.ts X.tn M.m) := by rw [← eM]; rfl
  refine (S10.putT_yes hs hb hi ta tf).mono ?_
  rintro e w' ⟨rfl, hst, ht⟩
  obtain ⟨hp, hbl⟩ := t_tables (i := 4) h.ps ee2 hst ht (fun k r e => .inl ⟨r, e⟩)
  refine ⟨rfl, { X with tM := S10.upd M.m b ((M.m b).set ni { (M.m b)[ni]! with a := ta, f := tf }) }, ⟨hp, h.wB, ?_, h.bl.trans hbl⟩, rfl⟩
  rw [← h.xm]; rfl
theorem Pg.keep_ (h : Pg w0 w base WB M r X) {S : Nat → Prop} (t : Turns S w w') (h1 : ∀ k, Foot X k → ¬ S k) (h2 : ∀ (i : Nat) (p : Part), r[i]? = some p → ∀ k, p.fp k → ¬ S k) (hb : Below base w w') : Pg w0 w' base WB M r X := by
  refine ⟨h.ps.kept t (fun i p hp k hk => ?_), h.wB, h.xm, h.bl.trans hb⟩
  by_cases hi : i < X.parts.length
  · rw [List.getElem?_append_left hi] at hp
    exact h1 k ⟨i, p, hp, hk⟩
  · rw [List.getElem?_append_right (by omega)] at hp
    exact h2 _ p hp k hk
theorem fire_due (h : Pg w0 w base WB M r X) {b : Int} (hb : S10.InI b) {ni : Nat} (hi : ni < (M.m b).length) (hd : (M.m b)[ni]!.a < (M.T : Int)) :
    Calls Tryz.prog 196 #[Pw WB, .agg #[.int .i64 b, .int .i64 (ni : Int)]] w fun e w' => e = .returned (.bool true) ∧ ∃ X', Pg w0 w' base WB { M with D := M.D.tail, m := S10.upd M.m b ((M.m b).set ni { (M.m b)[ni]! with a := ((S8.sat M.T (drawN M.D M.most) : Nat) : Int), f := (M.T : Int) }) } r X' := by
  obtain rfl := h.wB
  have eM : X.tM = M.m := congrArg Sd.m h.xm
  have eT : X.T = M.T := congrArg Sd.T h.xm
  have eD : X.D = M.D := congrArg Sd.D h.xm
  have eK : X.most = M.most := congrArg Sd.most h.xm
  obtain ⟨MF, hMF⟩ : ∃ MF : Sd, MF = { M with D := M.D.tail, m := S10.upd M.m b ((M.m b).set ni { (M.m b)[ni]! with a := ((S8.sat M.T (drawN M.D M.most) : Nat) : Int), f := (M.T : Int) }) } := ⟨_, rfl⟩
  rw [← hMF]
  obtain ⟨MD, hMD⟩ : ∃ MD : Sd, MD = { M with D := X.D.tail } := ⟨_, rfl⟩
  obtain ⟨ta, hta⟩ : ∃ ta, ta = (M.m b)[ni]!.a := ⟨_, rfl⟩
  obtain ⟨tf, htf⟩ : ∃ tf, tf = (M.m b)[ni]!.f := ⟨_, rfl⟩
  have HDD : Hid (ta < (X.T : Int)) := Lib.hid (by rw [hta, eT]; exact hd)
  have ht : ∀ W tb tO ts tn, S10.St W tb tO ts tn X.tM → Calls Tryz.prog 35 #[ts, .agg #[.int .i64 b, .int .i64 (ni : Int)]] W fun e w' => e = .returned (.agg #[.int .u64 ta, .int .u64 tf]) ∧ Below W.heap.size W w' := fun W tb tO ts tn hs => by
    obtain ⟨F, hr⟩ := hs.rs
    rw [eM] at hr
    rw [hta, htf]
    exact S10.timer_yes hr hb hi
  have HDR : Hid (∀ W, Pg w0 W base X.wB M r X → Calls Tryz.prog 229 #[Pw X.kB] W fun e w' => e = .returned (.int .u64 (drawN X.D X.most : Nat)) ∧ ∃ s, Pg w0 w' base X.wB MD r { X with ks := s, D := X.D.tail } ∧ s.ownBlock = X.ks.ownBlock ∧ Turns (fun k => k = X.kB) W w') := Lib.hid (fun W hW => by rw [hMD]; exact hW.draw_)
  have HPT : Hid (∀ W s4, Pg w0 W base X.wB MD r { X with ks := s4, D := X.D.tail } → Calls Tryz.prog 34 #[X.ts, .agg #[.int .i64 b, .int .i64 (ni : Int)], TmI ((S8.sat X.T (drawN X.D X.most) : Nat) : Int) (X.T : Int)] W fun e w' => e = .returned (.bool true) ∧ ∃ X', Pg w0 w' base X.wB MF r X') := Lib.hid (fun W s4 hW => by
    refine (hW.putT_ hb (ni := ni) (by rw [hMD]; exact hi) _ _).mono ?_
    rintro e w' ⟨rfl, X', h', _⟩
    refine ⟨rfl, X', ?_⟩
    have e2 : MF = { MD with m := S10.upd MD.m b ((MD.m b).set ni { (MD.m b)[ni]! with a := ((S8.sat X.T (drawN X.D X.most) : Nat) : Int), f := (X.T : Int) }) } := by rw [hMF, hMD, eT, eD, eK]
    rw [e2]; exact h')
  have HFT0 : Hid (∀ k, Foot X k → k < w.heap.size) := Lib.hid (fun k hk => h.pw.foot_lt hk)
  have HFR0 : Hid (∀ (i : Nat) (p : Part), r[i]? = some p → ∀ k, p.fp k → k < w.heap.size) := Lib.hid (fun i p hp k hk => p.lt w (h.ps.ok _ _ (h.part hp)) k hk)
  have HFC : Hid (∀ s4 : Value, s4.ownBlock = X.ks.ownBlock → ∀ k, Foot { X with ks := s4, D := X.D.tail } k → Foot X k) := Lib.hid (fun s4 ho k hk => foot_clock ho hk)
  have HSZ : Hid (base ≤ w.heap.size) := Lib.hid h.size
  obtain ⟨i, hI⟩ : ∃ i : Int, i = (ni : Int) := ⟨_, rfl⟩
  rw [← hI] at ht HPT ⊢
  clear hta htf hI hi hd hb hMF hMD eM eT eD eK
  have hB : Below w.heap.size w (w.alloc (.cells #[.int .i64 b, .int .i64 i] 97)) := (Below.refl _ _).alloc (Nat.le_refl _) _
  have hnew := heap_alloc_new w (.cells #[.int .i64 b, .int .i64 i] 97)
  have p0 := cell_row hnew 0; have p1 := cell_row hnew 1
  have hpt : ∃ B0, B0 = w.heap.size := ⟨_, rfl⟩
  obtain ⟨B0, hB0⟩ := hpt
  have hbs := h.size
  rw [← hB0] at p0 p1
  simp only [List.getElem?_toArray, List.getElem?_cons_zero, List.getElem?_cons_succ] at p0 p1
  have hW0 := hnew
  rw [← hB0] at hW0
  have HB := Lib.hid hB; have HB0 := Lib.hid hB0; have HH := Lib.hid h; have HBS := Lib.hid hbs
  clear h hB hnew hB0 hbs
  go_enter Tryz.func196, Tryz.ntmps196
  go_upto_region 3 with (fail)
  rw [← HB0.out]
  generalize w.alloc (.cells #[.int .i64 b, .int .i64 i] 97) = wb at *
  have HF : Hid (∀ W, Below wb.heap.size wb W → Pg w0 W base X.wB M r X) := Lib.hid (fun W q => HH.out.new (HB.out.trans (q.mono HB.out.size)))
  have HSB : Hid (w.heap.size ≤ wb.heap.size) := Lib.hid HB.out.size
  have HTI := Lib.hid (fun (W : World) (q : Below wb.heap.size wb W) => ht W X.tb X.tO X.ts X.tn (HF.out W q).pw.tables)
  have HNOW := Lib.hid (fun (W : World) (q : Below wb.heap.size wb W) => S3.now_any (HF.out W q).pw.clock)
  have HDUE := Lib.hid (due_int ta tf X.T)
  have HC : Hid (∀ W, Below wb.heap.size wb W → W.cell? ⟨X.wB, 1, none⟩ = some (Pw X.kB) ∧ W.cell? ⟨X.wB, 4, none⟩ = some X.ts ∧ W.cell? ⟨B0, 0, none⟩ = some (.int .i64 b) ∧ W.cell? ⟨B0, 1, none⟩ = some (.int .i64 i)) := Lib.hid (fun W q => ⟨(HF.out W q).pw.c1, (HF.out W q).pw.c4, bcell q p0, bcell q p1⟩)
  have HN0 : Hid (∀ k, Foot X k → k ≠ B0) := Lib.hid (fun k hk e => by have := HH.out.pw.foot_lt hk; have := HB0.out; omega)
  have HW0 : Hid (wb.heap[B0]? = some (.cells #[.int .i64 b, .int .i64 i] 97)) := Lib.hid hW0
  clear HB HB0 HH HBS ht hW0
  obtain ⟨c1, c4, q0, q1⟩ := HC.out wb (Below.refl _ _)
  obtain ⟨cB, cM, L, n, kk, aa, was, is, kb, kB, T, most, ks, D, pB, pf, pn, pk, pp, lB, lk, tb, tO, ts, tn, tM, nb, nB, ns, nD, wB, sp, tk⟩ := X
  dsimp only at *
  have R0 : Hid (Below wb.heap.size wb wb.drew) := Lib.hid ((Below.refl _ _).drew)
  have R00 : Hid (Below wb.heap.size wb (wb.alloc (.cells #[.int .u64 0, .int .u64 0] 100))) := Lib.hid ((Below.refl _ _).alloc (Nat.le_refl _) _)
  have R0a : Hid (Below wb.heap.size wb (wb.alloc (.cells #[.int .u64 0, .int .u64 0] 100)).drew) := Lib.hid R00.out.drew
  clear R00 R0a
  refine wp_mono (Q := onlyN (fun _ a' w' => ∃ Bx : Nat, a' = { tmps := #[Pw wB, .agg #[.int .i64 b, .int .i64 i], undef, Pw B0, .bool false, Pw Bx, .int .u64 (T : Int), undef, Pw wB, .bool false, Pw wB, .pointer (some ⟨wB, 0, none⟩), .pointer (some ⟨wB, 4, none⟩), ts, .agg #[.int .i64 b, .int .i64 i], TmI ta tf, Pw wB, .pointer (some ⟨wB, 0, none⟩), .pointer (some ⟨wB, 1, none⟩), Pw kB, .int .u64 (T : Int), undef, undef, undef, undef, undef, undef, undef, undef, undef, undef, undef, undef, undef, undef, undef, undef, undef, undef, undef, undef, undef, undef, undef], defers := [] } ∧ Below wb.heap.size wb w' ∧ wb.heap.size ≤ Bx ∧ TmIn w' Bx ta tf)) ?_ ?_
  · refine wp_region_held_drew (S := fun w' => w'.cell? ⟨wB, 1, none⟩ = some (Pw kB) ∧ w'.cell? ⟨wB, 4, none⟩ = some ts ∧ w'.cell? ⟨B0, 0, none⟩ = some (.int .i64 b) ∧ w'.cell? ⟨B0, 1, none⟩ = some (.int .i64 i)) (by kernel_rfl) ?_ (fun hHeld => ?_)
    · exact HC.out _ R0.out
    refine tA 0 ⟨some 10, .move (.tmp 0), 24, "worlds.go:85", #[], none⟩ ?vax1 ?rax1
    (try simp only [Act.put, tC, tD, tE])
    refine tA 1 ⟨some 11, .nilCheck (.tmp 10), 0, "worlds.go:85", #[⟨0, .data⟩], none⟩ ?vax2 ?rax2
    (try simp only [Act.put, tC, tD, tE])
    refine tA 2 ⟨some 12, .fieldAddr 47 (.tmp 11) 4, 0, "worlds.go:85", #[⟨1, .data⟩], none⟩ ?vax3 ?rax3
    (try simp only [Act.put, tC, tD, tE])
    refine tA 3 ⟨some 13, .load 43 (.tmp 12), 43, "worlds.go:85", #[⟨2, .data⟩], none⟩ ?vax4 ?rax4
    (try simp only [Act.put, tC, tD, tE])
    refine tA 4 ⟨some 14, .load 97 (.tmp 3), 97, "worlds.go:85", #[], none⟩ ?vax5 ?rax5
    (try simp only [Act.put, tC, tD, tE])
    refine tA 6 ⟨some 16, .move (.tmp 0), 24, "worlds.go:85", #[], none⟩ ?vax6 ?rax6
    (try simp only [Act.put, tC, tD, tE])
    refine tA 7 ⟨some 17, .nilCheck (.tmp 16), 0, "worlds.go:85", #[⟨6, .data⟩], none⟩ ?vax7 ?rax7
    (try simp only [Act.put, tC, tD, tE])
    refine tA 8 ⟨some 18, .fieldAddr 47 (.tmp 17) 1, 0, "worlds.go:85", #[⟨7, .data⟩], none⟩ ?vax8 ?rax8
    (try simp only [Act.put, tC, tD, tE])
    refine tA 9 ⟨some 19, .load 40 (.tmp 18), 40, "worlds.go:85", #[⟨8, .data⟩], none⟩ ?vax9 ?rax9
    (try simp only [Act.put, tC, tD, tE])
    refine wpAnyH_ready (rs := [5, 11]) (by kernel_rfl) (by simp) ?_
    refine AllReadyH.cons (o := ⟨some 15, .call ⟨.value (.func 35), #[.tmp 13, .tmp 14], #[43, 97]⟩, 100, "worlds.go:85", #[⟨3, .data⟩, ⟨4, .data⟩], none⟩) rfl (fun Kq hKq => ?_) ?_
    · go_simp
      (refine (HTI.out _ R0.out).mono ?_; rintro e w1 ⟨rfl, hb1⟩)
      have R1 : Hid (Below wb.heap.size wb w1) := Lib.hid (R0.out.trans (hb1.mono R0.out.size))
      clear hb1
      refine hKq.out _ _ ?_ (fun hHeld => ?_)
      · exact HC.out _ R1.out
      clear hKq Kq
      (try simp only [Act.put, tC, tD, tE])
      refine wpAnyH_ready (rs := [10, 11]) (by kernel_rfl) (by simp) ?_
      refine AllReadyH.cons (o := ⟨some 20, .call ⟨.value (.func 72), #[.tmp 19], #[40]⟩, 23, "worlds.go:85", #[⟨9, .data⟩, ⟨5, .chain⟩], none⟩) rfl (fun Kq hKq => ?_) ?_
      · go_simp
        (refine (HNOW.out _ R1.out).mono ?_; rintro e w2 ⟨rfl, rfl⟩)
        refine hKq.out _ _ ?_ (fun hHeld => ?_)
        · exact HC.out _ R1.out
        clear hKq Kq
        (try simp only [Act.put, tC, tD, tE])
        refine wpAnyH_ready (rs := [11]) (by kernel_rfl) (by simp) ?_
        refine AllReadyH.cons (o := ⟨some 5, .alloc 100, 0, "worlds.go:85", #[], none⟩) rfl (fun Kq hKq => ?_) AllReadyH.nil
        go_simp
        have R3 : Hid (Below wb.heap.size wb (w1.alloc (.cells #[.int .u64 0, .int .u64 0] 100))) := Lib.hid ((R1.out.alloc R1.out.size _))
        have TZ3 : Hid (TmIn (w1.alloc (.cells #[.int .u64 0, .int .u64 0] 100)) w1.heap.size 0 0) := Lib.hid (TmIn.made w1 0 0)
        generalize w1.alloc (.cells #[.int .u64 0, .int .u64 0] 100) = w3 at *
        refine hKq.out _ _ ?_ (fun hHeld => ?_)
        · exact HC.out _ R3.out
        clear hKq Kq
        (try simp only [Act.put, tC, tD, tE])
        refine wpAnyH_ready (rs := [12]) (by kernel_rfl) (by simp) ?_
        refine AllReadyH.cons (o := ⟨none, .store 100 (.tmp 5) (.tmp 15), 0, "worlds.go:85", #[⟨11, .data⟩, ⟨5, .data⟩, ⟨10, .chain⟩, ⟨0, .phase⟩, ⟨1, .phase⟩, ⟨2, .phase⟩, ⟨3, .phase⟩, ⟨4, .phase⟩, ⟨5, .phase⟩, ⟨6, .textOnly .lateStores⟩, ⟨7, .textOnly .lateStores⟩, ⟨8, .textOnly .lateStores⟩, ⟨9, .textOnly .lateStores⟩, ⟨10, .textOnly .lateStoresUnsure⟩, ⟨11, .phase⟩], none⟩) rfl (fun Kq hKq => ?_) AllReadyH.nil
        have z0 := TZ3.out.c0; have z1 := TZ3.out.c1; have f0 := TZ3.out.z0; have f1 := TZ3.out.z1
        go_simp
        have hle : wb.heap.size ≤ w1.heap.size := by have := R1.out.size; omega
        have R4 : Hid (Below wb.heap.size wb ((w3.setCell ⟨w1.heap.size, 0, none⟩ (.int .u64 ta)).setCell ⟨w1.heap.size, 1, none⟩ (.int .u64 tf))) := Lib.hid ((R3.out.setCell (p := ⟨w1.heap.size, 0, none⟩) hle _).setCell (p := ⟨w1.heap.size, 1, none⟩) hle _)
        have TZ4 : Hid (TmIn ((w3.setCell ⟨w1.heap.size, 0, none⟩ (.int .u64 ta)).setCell ⟨w1.heap.size, 1, none⟩ (.int .u64 tf)) w1.heap.size ta tf) := Lib.hid (TZ3.out.put ta tf)
        clear z0 z1 f0 f1
        generalize ((w3.setCell ⟨w1.heap.size, 0, none⟩ (.int .u64 ta)).setCell ⟨w1.heap.size, 1, none⟩ (.int .u64 tf)) = w4 at *
        refine hKq.out _ _ ?_ (fun hHeld => ?_)
        · exact HC.out _ R4.out
        clear hKq Kq
        (try simp only [Act.put, tC, tD, tE])
        refine tA 13 ⟨some 6, .assign (.tmp 20), 23, "worlds.go:85", #[⟨10, .data⟩, ⟨12, .chain⟩, ⟨0, .phase⟩, ⟨1, .phase⟩, ⟨2, .phase⟩, ⟨3, .phase⟩, ⟨4, .phase⟩, ⟨5, .phase⟩, ⟨6, .phase⟩, ⟨7, .phase⟩, ⟨8, .phase⟩, ⟨9, .phase⟩, ⟨10, .phase⟩, ⟨11, .phase⟩, ⟨12, .phase⟩], none⟩ ?vax10 ?rax10
        (try simp only [Act.put, tC, tD, tE])
        refine wpAnyH_done (by kernel_rfl) ?_ _
        exact ⟨w1.heap.size, rfl, R4.out, hle, TZ4.out⟩
      refine AllReadyH.cons (o := ⟨some 5, .alloc 100, 0, "worlds.go:85", #[], none⟩) rfl (fun Kq hKq => ?_) AllReadyH.nil
      go_simp
      have R2 : Hid (Below wb.heap.size wb (w1.alloc (.cells #[.int .u64 0, .int .u64 0] 100))) := Lib.hid ((R1.out.alloc R1.out.size _))
      have TZ2 : Hid (TmIn (w1.alloc (.cells #[.int .u64 0, .int .u64 0] 100)) w1.heap.size 0 0) := Lib.hid (TmIn.made w1 0 0)
      generalize w1.alloc (.cells #[.int .u64 0, .int .u64 0] 100) = w2 at *
      refine hKq.out _ _ ?_ (fun hHeld => ?_)
      · exact HC.out _ R2.out
      clear hKq Kq
      (try simp only [Act.put, tC, tD, tE])
      refine wpAnyH_ready (rs := [10]) (by kernel_rfl) (by simp) ?_
      refine AllReadyH.cons (o := ⟨some 20, .call ⟨.value (.func 72), #[.tmp 19], #[40]⟩, 23, "worlds.go:85", #[⟨9, .data⟩, ⟨5, .chain⟩], none⟩) rfl (fun Kq hKq => ?_) AllReadyH.nil
      go_simp
      (refine (HNOW.out _ R2.out).mono ?_; rintro e w3 ⟨rfl, rfl⟩)
      refine hKq.out _ _ ?_ (fun hHeld => ?_)
      · exact HC.out _ R2.out
      clear hKq Kq
      (try simp only [Act.put, tC, tD, tE])
      refine wpAnyH_ready (rs := [12]) (by kernel_rfl) (by simp) ?_
      refine AllReadyH.cons (o := ⟨none, .store 100 (.tmp 5) (.tmp 15), 0, "worlds.go:85", #[⟨11, .data⟩, ⟨5, .data⟩, ⟨10, .chain⟩, ⟨0, .phase⟩, ⟨1, .phase⟩, ⟨2, .phase⟩, ⟨3, .phase⟩, ⟨4, .phase⟩, ⟨5, .phase⟩, ⟨6, .textOnly .lateStores⟩, ⟨7, .textOnly .lateStores⟩, ⟨8, .textOnly .lateStores⟩, ⟨9, .textOnly .lateStores⟩, ⟨10, .textOnly .lateStoresUnsure⟩, ⟨11, .phase⟩], none⟩) rfl (fun Kq hKq => ?_) AllReadyH.nil
      have z0 := TZ2.out.c0; have z1 := TZ2.out.c1; have f0 := TZ2.out.z0; have f1 := TZ2.out.z1
      go_simp
      have hle : wb.heap.size ≤ w1.heap.size := by have := R1.out.size; omega
      have R4 : Hid (Below wb.heap.size wb ((w2.setCell ⟨w1.heap.size, 0, none⟩ (.int .u64 ta)).setCell ⟨w1.heap.size, 1, none⟩ (.int .u64 tf))) := Lib.hid ((R2.out.setCell (p := ⟨w1.heap.size, 0, none⟩) hle _).setCell (p := ⟨w1.heap.size, 1, none⟩) hle _)
      have TZ4 : Hid (TmIn ((w2.setCell ⟨w1.heap.size, 0, none⟩ (.int .u64 ta)).setCell ⟨w1.heap.size, 1, none⟩ (.int .u64 tf)) w1.heap.size ta tf) := Lib.hid (TZ2.out.put ta tf)
      clear z0 z1 f0 f1
      generalize ((w2.setCell ⟨w1.heap.size, 0, none⟩ (.int .u64 ta)).setCell ⟨w1.heap.size, 1, none⟩ (.int .u64 tf)) = w4 at *
      refine hKq.out _ _ ?_ (fun hHeld => ?_)
      · exact HC.out _ R4.out
      clear hKq Kq
      (try simp only [Act.put, tC, tD, tE])
      refine tA 13 ⟨some 6, .assign (.tmp 20), 23, "worlds.go:85", #[⟨10, .data⟩, ⟨12, .chain⟩, ⟨0, .phase⟩, ⟨1, .phase⟩, ⟨2, .phase⟩, ⟨3, .phase⟩, ⟨4, .phase⟩, ⟨5, .phase⟩, ⟨6, .phase⟩, ⟨7, .phase⟩, ⟨8, .phase⟩, ⟨9, .phase⟩, ⟨10, .phase⟩, ⟨11, .phase⟩, ⟨12, .phase⟩], none⟩ ?vax11 ?rax11
      (try simp only [Act.put, tC, tD, tE])
      refine wpAnyH_done (by kernel_rfl) ?_ _
      exact ⟨w1.heap.size, rfl, R4.out, hle, TZ4.out⟩
    refine AllReadyH.cons (o := ⟨some 5, .alloc 100, 0, "worlds.go:85", #[], none⟩) rfl (fun Kq hKq => ?_) AllReadyH.nil
    go_simp
    have R1 : Hid (Below wb.heap.size wb ((wb.alloc (.cells #[.int .u64 0, .int .u64 0] 100)).drew)) := Lib.hid (((Below.refl _ _).alloc (Nat.le_refl _) _).drew)
    have TZ1 : Hid (TmIn ((wb.alloc (.cells #[.int .u64 0, .int .u64 0] 100)).drew) wb.heap.size 0 0) := Lib.hid (TmIn.made wb 0 0)
    generalize (wb.alloc (.cells #[.int .u64 0, .int .u64 0] 100)).drew = w1 at *
    refine hKq.out _ _ ?_ (fun hHeld => ?_)
    · exact HC.out _ R1.out
    clear hKq Kq
    (try simp only [Act.put, tC, tD, tE])
    refine wpAnyH_ready (rs := [5]) (by kernel_rfl) (by simp) ?_
    refine AllReadyH.cons (o := ⟨some 15, .call ⟨.value (.func 35), #[.tmp 13, .tmp 14], #[43, 97]⟩, 100, "worlds.go:85", #[⟨3, .data⟩, ⟨4, .data⟩], none⟩) rfl (fun Kq hKq => ?_) AllReadyH.nil
    go_simp
    (refine (HTI.out _ R1.out).mono ?_; rintro e w2 ⟨rfl, hb2⟩)
    have R2 : Hid (Below wb.heap.size wb w2) := Lib.hid (R1.out.trans (hb2.mono R1.out.size))
    have TZ2 := Lib.hid (TZ1.out.new hb2)
    clear hb2
    refine hKq.out _ _ ?_ (fun hHeld => ?_)
    · exact HC.out _ R2.out
    clear hKq Kq
    (try simp only [Act.put, tC, tD, tE])
    refine wpAnyH_ready (rs := [10]) (by kernel_rfl) (by simp) ?_
    refine AllReadyH.cons (o := ⟨some 20, .call ⟨.value (.func 72), #[.tmp 19], #[40]⟩, 23, "worlds.go:85", #[⟨9, .data⟩, ⟨5, .chain⟩], none⟩) rfl (fun Kq hKq => ?_) AllReadyH.nil
    go_simp
    (refine (HNOW.out _ R2.out).mono ?_; rintro e w3 ⟨rfl, rfl⟩)
    refine hKq.out _ _ ?_ (fun hHeld => ?_)
    · exact HC.out _ R2.out
    clear hKq Kq
    (try simp only [Act.put, tC, tD, tE])
    refine wpAnyH_ready (rs := [12]) (by kernel_rfl) (by simp) ?_
    refine AllReadyH.cons (o := ⟨none, .store 100 (.tmp 5) (.tmp 15), 0, "worlds.go:85", #[⟨11, .data⟩, ⟨5, .data⟩, ⟨10, .chain⟩, ⟨0, .phase⟩, ⟨1, .phase⟩, ⟨2, .phase⟩, ⟨3, .phase⟩, ⟨4, .phase⟩, ⟨5, .phase⟩, ⟨6, .textOnly .lateStores⟩, ⟨7, .textOnly .lateStores⟩, ⟨8, .textOnly .lateStores⟩, ⟨9, .textOnly .lateStores⟩, ⟨10, .textOnly .lateStoresUnsure⟩, ⟨11, .phase⟩], none⟩) rfl (fun Kq hKq => ?_) AllReadyH.nil
    have z0 := TZ2.out.c0; have z1 := TZ2.out.c1; have f0 := TZ2.out.z0; have f1 := TZ2.out.z1
    go_simp
    have hle : wb.heap.size ≤ wb.heap.size := by have := Nat.le_refl wb.heap.size; omega
    have R4 : Hid (Below wb.heap.size wb ((w2.setCell ⟨wb.heap.size, 0, none⟩ (.int .u64 ta)).setCell ⟨wb.heap.size, 1, none⟩ (.int .u64 tf))) := Lib.hid ((R2.out.setCell (p := ⟨wb.heap.size, 0, none⟩) hle _).setCell (p := ⟨wb.heap.size, 1, none⟩) hle _)
    have TZ4 : Hid (TmIn ((w2.setCell ⟨wb.heap.size, 0, none⟩ (.int .u64 ta)).setCell ⟨wb.heap.size, 1, none⟩ (.int .u64 tf)) wb.heap.size ta tf) := Lib.hid (TZ2.out.put ta tf)
    clear z0 z1 f0 f1
    generalize ((w2.setCell ⟨wb.heap.size, 0, none⟩ (.int .u64 ta)).setCell ⟨wb.heap.size, 1, none⟩ (.int .u64 tf)) = w4 at *
    refine hKq.out _ _ ?_ (fun hHeld => ?_)
    · exact HC.out _ R4.out
    clear hKq Kq
    (try simp only [Act.put, tC, tD, tE])
    refine tA 13 ⟨some 6, .assign (.tmp 20), 23, "worlds.go:85", #[⟨10, .data⟩, ⟨12, .chain⟩, ⟨0, .phase⟩, ⟨1, .phase⟩, ⟨2, .phase⟩, ⟨3, .phase⟩, ⟨4, .phase⟩, ⟨5, .phase⟩, ⟨6, .phase⟩, ⟨7, .phase⟩, ⟨8, .phase⟩, ⟨9, .phase⟩, ⟨10, .phase⟩, ⟨11, .phase⟩, ⟨12, .phase⟩], none⟩ ?vax12 ?rax12
    (try simp only [Act.put, tC, tD, tE])
    refine wpAnyH_done (by kernel_rfl) ?_ _
    exact ⟨wb.heap.size, rfl, R4.out, hle, TZ4.out⟩
  · rintro e a2 w2 hq
    cases e <;> try exact hq.elim
    obtain ⟨Bx, rfl, hb2, hle, htz⟩ := hq
    (try dsimp only)
    have hP := (HF.out w2 hb2).pw
    have TZ := Lib.hid htz
    have z0 := htz.c0; have z1 := htz.c1
    have HB2 := Lib.hid hb2; have HLE := Lib.hid hle
    clear htz hb2 hle
    by_cases hd : ta < (T : Int)
    · rw [decide_eq_true hd] at HDUE
      have HFI := Lib.hid (fun W => fire_yes ta tf T (drawN D most) hd hP.clock.nums.t (drawN_le hP.clock.nums) W)
      go_upto_region 6 with (go_at_call 227; refine (HDUE.out _).mono ?_; rintro e w3 ⟨rfl, b3⟩)
      have HB3 := Lib.hid (HB2.out.trans (b3.mono HB2.out.size)).drew
      have HPG := Lib.hid (HF.out _ HB3.out)
      have HPD := Lib.hid HPG.out.pw
      have TZ3 : Hid (TmIn w3.drew Bx ta tf) := Lib.hid (TZ.out.new b3.drew)
      have HQ0 : Hid (w3.drew.heap[B0]? = some (.cells #[.int .i64 b, .int .i64 i] 97)) := Lib.hid ((HB3.out.block B0 (Array.getElem?_eq_some_iff.1 HW0.out).1).trans HW0.out)
      have HFT := Lib.hid (fun k hk => Nat.lt_of_lt_of_le (HFT0.out k hk) HSB.out)
      have hkl : kB < wb.heap.size := HFT.out kB ⟨1, _, rfl, .inl rfl⟩
      have HNE : Hid (¬ Bx = kB ∧ ¬ B0 = kB ∧ B0 < w3.drew.heap.size) := Lib.hid ⟨by have := HLE.out; omega, by have := HN0.out kB ⟨1, _, rfl, .inl rfl⟩; exact fun e => this e.symm, (Array.getElem?_eq_some_iff.1 HQ0.out).1⟩
      have HNB : Hid (¬ B0 = Bx) := Lib.hid (by have := HLE.out; have := (Array.getElem?_eq_some_iff.1 HW0.out).1; omega)
      have HBL : Hid (base ≤ Bx) := Lib.hid (by have := HLE.out; have := HSZ.out; have := HSB.out; omega)
      have m1 := HPD.out.c1
      dsimp only at m1
      clear b3 hd hkl z0 z1 hP c1 c4 q0 q1
      refine wp_region_held_drew (S := fun w' => w'.cell? ⟨wB, 1, none⟩ = some (Pw kB)) (by kernel_rfl) ?_ (fun hHeld => ?_)
      · exact m1
      refine tA 1 ⟨some 27, .move (.tmp 6), 23, "worlds.go:90", #[], none⟩ ?vbx1 ?rbx1
      (try simp only [Act.put, tC, tD, tE])
      refine tA 2 ⟨some 28, .move (.tmp 0), 24, "worlds.go:90", #[], none⟩ ?vbx2 ?rbx2
      (try simp only [Act.put, tC, tD, tE])
      refine tA 3 ⟨some 29, .nilCheck (.tmp 28), 0, "worlds.go:90", #[⟨2, .data⟩], none⟩ ?vbx3 ?rbx3
      (try simp only [Act.put, tC, tD, tE])
      refine tA 4 ⟨some 30, .fieldAddr 47 (.tmp 29) 1, 0, "worlds.go:90", #[⟨3, .data⟩], none⟩ ?vbx4 ?rbx4
      (try simp only [Act.put, tC, tD, tE])
      refine tA 5 ⟨some 31, .load 40 (.tmp 30), 40, "worlds.go:90", #[⟨4, .data⟩], none⟩ ?vbx5 ?rbx5
      (try simp only [Act.put, tC, tD, tE])
      refine wpAnyH_ready (rs := [0, 6]) (by kernel_rfl) (by simp) ?_
      refine AllReadyH.cons (o := ⟨some 26, .load 100 (.tmp 5), 100, "worlds.go:90", #[], none⟩) rfl (fun Kq hKq => ?_) ?_
      · have z0 := TZ3.out.c0; have z1 := TZ3.out.c1
        go_simp
        clear z0 z1
        refine hKq.out _ _ ?_ (fun hHeld => ?_)
        · exact HPD.out.c1
        clear hKq Kq
        (try simp only [Act.put, tC, tD, tE])
        refine wpAnyH_ready (rs := [6]) (by kernel_rfl) (by simp) ?_
        refine AllReadyH.cons (o := ⟨some 32, .call ⟨.value (.func 229), #[.tmp 31], #[40]⟩, 23, "worlds.go:90", #[⟨5, .data⟩], none⟩) rfl (fun Kq hKq => ?_) AllReadyH.nil
        go_simp
        (refine (HDR.out _ HPG.out).mono ?_; rintro e w4 ⟨rfl, s4, hp4, ho4, ht4⟩)
        have G4 := Lib.hid hp4; have P4 := Lib.hid hp4.pw
        have T4 : Hid (TmIn w4 Bx ta tf) := Lib.hid ((ht4.block Bx TZ3.out.lt (HNE.out.1)).trans TZ3.out)
        have Q4 : Hid (w4.heap[B0]? = some (.cells #[.int .i64 b, .int .i64 i] 97)) := Lib.hid ((ht4.block B0 HNE.out.2.2 (HNE.out.2.1)).trans HQ0.out)
        have H4 : Hid (w3.drew.heap.size ≤ w4.heap.size) := Lib.hid ht4.size
        have F4 := Lib.hid (fun k hk => HFT.out k (HFC.out s4 ho4 k hk))
        clear hp4 ho4 ht4
        refine hKq.out _ _ ?_ (fun hHeld => ?_)
        · exact P4.out.c1
        clear hKq Kq
        (try simp only [Act.put, tC, tD, tE])
        refine wpAnyH_ready (rs := [7]) (by kernel_rfl) (by simp) ?_
        refine AllReadyH.cons (o := ⟨some 33, .call ⟨.value (.func 228), #[.tmp 26, .tmp 27, .tmp 32], #[100, 23, 23]⟩, 381, "worlds.go:90", #[⟨0, .data⟩, ⟨1, .data⟩, ⟨6, .data⟩, ⟨6, .chain⟩], none⟩) rfl (fun Kq hKq => ?_) AllReadyH.nil
        go_simp
        (refine (HFI.out w4).mono ?_; rintro e w5 ⟨rfl, b5⟩)
        have G5 := Lib.hid (G4.out.new b5); have P5 := Lib.hid (P4.out.new b5)
        have T5 := Lib.hid (T4.out.new b5)
        have Q5 : Hid (w5.heap[B0]? = some (.cells #[.int .i64 b, .int .i64 i] 97)) := Lib.hid ((b5.block B0 (Array.getElem?_eq_some_iff.1 Q4.out).1).trans Q4.out)
        clear b5
        refine hKq.out _ _ ?_ (fun hHeld => ?_)
        · exact P5.out.c1
        clear hKq Kq
        (try simp only [Act.put, tC, tD, tE])
        refine tA 8 ⟨some 25, .move (.tmp 33), 381, "worlds.go:90", #[⟨7, .data⟩], none⟩ ?vbx6 ?rbx6
        (try simp only [Act.put, tC, tD, tE])
        refine tA 9 ⟨some 34, .extract (.tmp 25) 0, 100, "worlds.go:90", #[⟨8, .data⟩], none⟩ ?vbx7 ?rbx7
        (try simp only [Act.put, tC, tD, tE])
        refine tA 10 ⟨some 35, .extract (.tmp 25) 1, 4, "worlds.go:90", #[⟨8, .data⟩, ⟨11, .gcOnly .lateStores⟩], none⟩ ?vbx8 ?rbx8
        (try simp only [Act.put, tC, tD, tE])
        refine wpAnyH_ready (rs := [11]) (by kernel_rfl) (by simp) ?_
        refine AllReadyH.cons (o := ⟨none, .store 100 (.tmp 5) (.tmp 34), 0, "worlds.go:90", #[⟨9, .data⟩, ⟨7, .chain⟩, ⟨0, .phase⟩, ⟨1, .phase⟩, ⟨2, .phase⟩, ⟨3, .phase⟩, ⟨4, .phase⟩, ⟨5, .phase⟩, ⟨6, .phase⟩, ⟨7, .phase⟩, ⟨8, .phase⟩, ⟨9, .phase⟩, ⟨10, .textOnly .lateStores⟩], none⟩) rfl (fun Kq hKq => ?_) AllReadyH.nil
        have z0 := T5.out.c0; have z1 := T5.out.c1; have f0 := T5.out.z0; have f1 := T5.out.z1
        go_simp
        have TT : Turns (fun k => k = Bx) w5 ((w5.setCell ⟨Bx, 0, none⟩ (.int .u64 ((S8.sat T (drawN D most) : Nat) : Int))).setCell ⟨Bx, 1, none⟩ (.int .u64 (T : Int))) := (((Turns.refl (fun k => k = Bx) w5).setCell ⟨Bx, 0, none⟩ _ rfl).setCell ⟨Bx, 1, none⟩ _ rfl)
        have G6 := Lib.hid (G5.out.keep_ TT (fun k hk e => by have := F4.out k hk; have := HLE.out; omega) (fun i p hp k hk e => by have := HFR0.out i p hp k hk; have := HSB.out; have := HLE.out; omega) (((Below.refl base w5).setCell (p := ⟨Bx, 0, none⟩) HBL.out _).setCell (p := ⟨Bx, 1, none⟩) HBL.out _))
        have P6 := Lib.hid G6.out.pw
        have T6 : Hid (TmIn ((w5.setCell ⟨Bx, 0, none⟩ (.int .u64 ((S8.sat T (drawN D most) : Nat) : Int))).setCell ⟨Bx, 1, none⟩ (.int .u64 (T : Int))) Bx ((S8.sat T (drawN D most) : Nat) : Int) (T : Int)) := Lib.hid (T5.out.put _ _)
        have Q6 : Hid (((w5.setCell ⟨Bx, 0, none⟩ (.int .u64 ((S8.sat T (drawN D most) : Nat) : Int))).setCell ⟨Bx, 1, none⟩ (.int .u64 (T : Int))).heap[B0]? = some (.cells #[.int .i64 b, .int .i64 i] 97)) := Lib.hid ((TT.block B0 (Array.getElem?_eq_some_iff.1 Q5.out).1 HNB.out).trans Q5.out)
        clear z0 z1 f0 f1 TT
        generalize ((w5.setCell ⟨Bx, 0, none⟩ (.int .u64 ((S8.sat T (drawN D most) : Nat) : Int))).setCell ⟨Bx, 1, none⟩ (.int .u64 (T : Int))) = w6 at *
        refine hKq.out _ _ ?_ (fun hHeld => ?_)
        · exact P6.out.c1
        clear hKq Kq
        (try simp only [Act.put, tC, tD, tE])
        refine tA 12 ⟨some 7, .assign (.tmp 35), 4, "worlds.go:90", #[⟨10, .data⟩, ⟨11, .chain⟩, ⟨0, .phase⟩, ⟨1, .phase⟩, ⟨2, .phase⟩, ⟨3, .phase⟩, ⟨4, .phase⟩, ⟨5, .phase⟩, ⟨6, .phase⟩, ⟨7, .phase⟩, ⟨8, .phase⟩, ⟨9, .phase⟩, ⟨10, .phase⟩, ⟨11, .phase⟩], none⟩ ?vbx9 ?rbx9
        (try simp only [Act.put, tC, tD, tE])
        refine wpAnyH_done (by kernel_rfl) ?_ _
        clear hHeld
        go_upto_region 7 with (fail)
        have m4 := P6.out.c4; have y0 := cell_row Q6.out 0; have y1 := cell_row Q6.out 1; have t0 := T6.out.c0; have t1 := T6.out.c1
        dsimp only at m4
        simp only [List.getElem?_toArray, List.getElem?_cons_zero, List.getElem?_cons_succ] at y0 y1
        go_region_law (go_simp; refine (HPT.out _ s4 (G6.out.new (Below.refl _ _).drew)).mono ?_; rintro e w7 ⟨rfl, hf⟩)
        all_goals
          go_wp2_with fail
          go_ret
          exact ⟨rfl, hf⟩
      refine AllReadyH.cons (o := ⟨some 32, .call ⟨.value (.func 229), #[.tmp 31], #[40]⟩, 23, "worlds.go:90", #[⟨5, .data⟩], none⟩) rfl (fun Kq hKq => ?_) AllReadyH.nil
      go_simp
      (refine (HDR.out _ HPG.out).mono ?_; rintro e w4 ⟨rfl, s4, hp4, ho4, ht4⟩)
      have G4 := Lib.hid hp4; have P4 := Lib.hid hp4.pw
      have T4 : Hid (TmIn w4 Bx ta tf) := Lib.hid ((ht4.block Bx TZ3.out.lt (HNE.out.1)).trans TZ3.out)
      have Q4 : Hid (w4.heap[B0]? = some (.cells #[.int .i64 b, .int .i64 i] 97)) := Lib.hid ((ht4.block B0 HNE.out.2.2 (HNE.out.2.1)).trans HQ0.out)
      have H4 : Hid (w3.drew.heap.size ≤ w4.heap.size) := Lib.hid ht4.size
      have F4 := Lib.hid (fun k hk => HFT.out k (HFC.out s4 ho4 k hk))
      clear hp4 ho4 ht4
      refine hKq.out _ _ ?_ (fun hHeld => ?_)
      · exact P4.out.c1
      clear hKq Kq
      (try simp only [Act.put, tC, tD, tE])
      refine wpAnyH_ready (rs := [0]) (by kernel_rfl) (by simp) ?_
      refine AllReadyH.cons (o := ⟨some 26, .load 100 (.tmp 5), 100, "worlds.go:90", #[], none⟩) rfl (fun Kq hKq => ?_) AllReadyH.nil
      have z0 := T4.out.c0; have z1 := T4.out.c1
      go_simp
      clear z0 z1
      refine hKq.out _ _ ?_ (fun hHeld => ?_)
      · exact P4.out.c1
      clear hKq Kq
      (try simp only [Act.put, tC, tD, tE])
      refine wpAnyH_ready (rs := [7]) (by kernel_rfl) (by simp) ?_
      refine AllReadyH.cons (o := ⟨some 33, .call ⟨.value (.func 228), #[.tmp 26, .tmp 27, .tmp 32], #[100, 23, 23]⟩, 381, "worlds.go:90", #[⟨0, .data⟩, ⟨1, .data⟩, ⟨6, .data⟩, ⟨6, .chain⟩], none⟩) rfl (fun Kq hKq => ?_) AllReadyH.nil
      go_simp
      (refine (HFI.out w4).mono ?_; rintro e w5 ⟨rfl, b5⟩)
      have G5 := Lib.hid (G4.out.new b5); have P5 := Lib.hid (P4.out.new b5)
      have T5 := Lib.hid (T4.out.new b5)
      have Q5 : Hid (w5.heap[B0]? = some (.cells #[.int .i64 b, .int .i64 i] 97)) := Lib.hid ((b5.block B0 (Array.getElem?_eq_some_iff.1 Q4.out).1).trans Q4.out)
      clear b5
      refine hKq.out _ _ ?_ (fun hHeld => ?_)
      · exact P5.out.c1
      clear hKq Kq
      (try simp only [Act.put, tC, tD, tE])
      refine tA 8 ⟨some 25, .move (.tmp 33), 381, "worlds.go:90", #[⟨7, .data⟩], none⟩ ?vbx10 ?rbx10
      (try simp only [Act.put, tC, tD, tE])
      refine tA 9 ⟨some 34, .extract (.tmp 25) 0, 100, "worlds.go:90", #[⟨8, .data⟩], none⟩ ?vbx11 ?rbx11
      (try simp only [Act.put, tC, tD, tE])
      refine tA 10 ⟨some 35, .extract (.tmp 25) 1, 4, "worlds.go:90", #[⟨8, .data⟩, ⟨11, .gcOnly .lateStores⟩], none⟩ ?vbx12 ?rbx12
      (try simp only [Act.put, tC, tD, tE])
      refine wpAnyH_ready (rs := [11]) (by kernel_rfl) (by simp) ?_
      refine AllReadyH.cons (o := ⟨none, .store 100 (.tmp 5) (.tmp 34), 0, "worlds.go:90", #[⟨9, .data⟩, ⟨7, .chain⟩, ⟨0, .phase⟩, ⟨1, .phase⟩, ⟨2, .phase⟩, ⟨3, .phase⟩, ⟨4, .phase⟩, ⟨5, .phase⟩, ⟨6, .phase⟩, ⟨7, .phase⟩, ⟨8, .phase⟩, ⟨9, .phase⟩, ⟨10, .textOnly .lateStores⟩], none⟩) rfl (fun Kq hKq => ?_) AllReadyH.nil
      have z0 := T5.out.c0; have z1 := T5.out.c1; have f0 := T5.out.z0; have f1 := T5.out.z1
      go_simp
      have TT : Turns (fun k => k = Bx) w5 ((w5.setCell ⟨Bx, 0, none⟩ (.int .u64 ((S8.sat T (drawN D most) : Nat) : Int))).setCell ⟨Bx, 1, none⟩ (.int .u64 (T : Int))) := (((Turns.refl (fun k => k = Bx) w5).setCell ⟨Bx, 0, none⟩ _ rfl).setCell ⟨Bx, 1, none⟩ _ rfl)
      have G6 := Lib.hid (G5.out.keep_ TT (fun k hk e => by have := F4.out k hk; have := HLE.out; omega) (fun i p hp k hk e => by have := HFR0.out i p hp k hk; have := HSB.out; have := HLE.out; omega) (((Below.refl base w5).setCell (p := ⟨Bx, 0, none⟩) HBL.out _).setCell (p := ⟨Bx, 1, none⟩) HBL.out _))
      have P6 := Lib.hid G6.out.pw
      have T6 : Hid (TmIn ((w5.setCell ⟨Bx, 0, none⟩ (.int .u64 ((S8.sat T (drawN D most) : Nat) : Int))).setCell ⟨Bx, 1, none⟩ (.int .u64 (T : Int))) Bx ((S8.sat T (drawN D most) : Nat) : Int) (T : Int)) := Lib.hid (T5.out.put _ _)
      have Q6 : Hid (((w5.setCell ⟨Bx, 0, none⟩ (.int .u64 ((S8.sat T (drawN D most) : Nat) : Int))).setCell ⟨Bx, 1, none⟩ (.int .u64 (T : Int))).heap[B0]? = some (.cells #[.int .i64 b, .int .i64 i] 97)) := Lib.hid ((TT.block B0 (Array.getElem?_eq_some_iff.1 Q5.out).1 HNB.out).trans Q5.out)
      clear z0 z1 f0 f1 TT
      generalize ((w5.setCell ⟨Bx, 0, none⟩ (.int .u64 ((S8.sat T (drawN D most) : Nat) : Int))).setCell ⟨Bx, 1, none⟩ (.int .u64 (T : Int))) = w6 at *
      refine hKq.out _ _ ?_ (fun hHeld => ?_)
      · exact P6.out.c1
      clear hKq Kq
      (try simp only [Act.put, tC, tD, tE])
      refine tA 12 ⟨some 7, .assign (.tmp 35), 4, "worlds.go:90", #[⟨10, .data⟩, ⟨11, .chain⟩, ⟨0, .phase⟩, ⟨1, .phase⟩, ⟨2, .phase⟩, ⟨3, .phase⟩, ⟨4, .phase⟩, ⟨5, .phase⟩, ⟨6, .phase⟩, ⟨7, .phase⟩, ⟨8, .phase⟩, ⟨9, .phase⟩, ⟨10, .phase⟩, ⟨11, .phase⟩], none⟩ ?vbx13 ?rbx13
      (try simp only [Act.put, tC, tD, tE])
      refine wpAnyH_done (by kernel_rfl) ?_ _
      clear hHeld
      go_upto_region 7 with (fail)
      have m4 := P6.out.c4; have y0 := cell_row Q6.out 0; have y1 := cell_row Q6.out 1; have t0 := T6.out.c0; have t1 := T6.out.c1
      dsimp only at m4
      simp only [List.getElem?_toArray, List.getElem?_cons_zero, List.getElem?_cons_succ] at y0 y1
      go_region_law (go_simp; refine (HPT.out _ s4 (G6.out.new (Below.refl _ _).drew)).mono ?_; rintro e w7 ⟨rfl, hf⟩)
      all_goals
        go_wp2_with fail
        go_ret
        exact ⟨rfl, hf⟩
    · exact absurd HDD.out hd
end
end Go.Proofs.YtieiiabbeglmfaaGreatDoor.S12
