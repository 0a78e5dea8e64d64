/- Texts of this seat, one behind the other. -/
import Derived.Test.YtieiiabbeglmfaaGreatDoorMLawOldest201
import Derived.Test.YtieiiabbeglmfaaGreatDoorMLawOldest2037
set_option linter.unusedVariables false
set_option linter.unusedSimpArgs false
set_option linter.unusedVariables false
set_option linter.unusedSimpArgs false
set_option linter.unusedVariables false
set_option linter.unusedSimpArgs false
namespace Go.Proofs.YtieiiabbeglmfaaGreatDoor.S18
set_option maxRecDepth 100000
set_option maxHeartbeats 16000000
open Go.Proofs.YtieiiabbeglmfaaGreatDoor Go.Proofs.YtieiiabbeglmfaaGreatDoor.S11 Go.Proofs.YtieiiabbeglmfaaGreatDoor.S12 Go.Proofs.YtieiiabbeglmfaaGreatDoor.S13 Go.Proofs.YtieiiabbeglmfaaGreatDoor.S14 Go.Proofs.YtieiiabbeglmfaaGreatDoor.S15 Go.Proofs.YtieiiabbeglmfaaGreatDoor.S16
open Go.RowKit
def goneM (M : Sd) (t : Nat) (pb : Int) (pi ky : Nat) : Sd :=
  if S10.cutB (qAt M pb pi) (S10.idx (S10.byThread (t : Int)) (qAt M pb pi)) then (M.putq pb pi (S10.cutL (qAt M pb pi) (S10.idx (S10.byThread (t : Int)) (qAt M pb pi)))).note ⟨((M.n + M.pn : Nat) : Int), (t : Int), 5, (ky : Int), -1, 0, 0⟩ else M
def goneB (M : Sd) (t : Nat) (pb : Int) (pi ky : Nat) : Bool :=
  !decide (0 ≤ S10.idx (S10.byKey (ky : Int)) (S10.cutL (qAt M pb pi) (S10.idx (S10.byThread (t : Int)) (qAt M pb pi))))
def sliceP (s : Value) (n : Nat) (cs : List Value) : Part where
  ok w := S10.Row w 0 3 s n cs
  fp k := s.ownBlock = some k
  lt w h k e := (h.lt k e).2
  kept S w w' h t hs := h.keep (S := S) ⟨t.os, t.tape, t.output, t.size, t.block⟩ hs
section
variable {w0 w w' : World} {base WB : Nat} {M : Sd} {r : List Part} {j e u B : Nat} {l l' : Rows} {X : Wm} {D : Pd} {pb pi : Int} {p b : Value} {o : Nat}
theorem _root_.Go.Proofs.YtieiiabbeglmfaaGreatDoor.S16.Wq.pushP (h : Wq w0 w base WB M r j l X) (q : Part) (b : Below w.heap.size w w') (hq : q.ok w') (hf : ∀ k, q.fp k → w.heap.size ≤ k) : Wq w0 w' base WB M (r ++ [q]) j l X := by
  have h1 := Pg.push1 h.pg q b hq hf
  refine ⟨?_, by rw [List.length_append]; have := h.hj; omega⟩
  rw [List.set_append_left _ _ h.hj]
  exact h1
theorem _root_.Go.Proofs.YtieiiabbeglmfaaGreatDoor.S16.Wq.dropP {q : Part} (h : Wq w0 w base WB M (r ++ [q]) j l X) (hj : j < r.length) : Wq w0 w base WB M r j l X := by
  have h1 := h.pg
  rw [List.set_append_left _ _ hj] at h1
  refine ⟨⟨Parts.left (l' := [q]) (by rw [List.append_assoc]; exact h1.ps), h1.wB, h1.xm, h1.bl⟩, hj⟩
theorem _root_.Go.Proofs.YtieiiabbeglmfaaGreatDoor.S16.Wq.lastP {q : Part} (h : Wq w0 w base WB M (r ++ [q]) j l X) (hj : j < r.length) : q.ok w := by
  have e : ((r ++ [q]).set j (rowsP l))[r.length]? = some q := by
    rw [List.set_append_left _ _ hj, List.getElem?_append_right (by rw [List.length_set]; exact Nat.le_refl _), List.length_set, Nat.sub_self]; rfl
  exact h.pg.ps.ok _ _ (h.pg.part e)
theorem gone_ {pi ky : Nat} (h : Wq w0 w base WB M r j l X) (hb : l[0]? = some (B, pkO D pb (pi : Int) p b o)) (ht : D.t < 64) (hn : M.n ≤ 900000000) (hpn : M.pn ≤ 900000000) (hT : Tab w0) (hT1 : 0 < base)
    (hpb : S10.InI pb) (hpi : pi < (M.m pb).length) (hq : (qAt M pb pi).length ≤ 900) (hnl : M.nD.length ≤ 90000) :
    Calls Tryz.prog 269 #[Pw B, Pw WB, .int .u32 (ky : Int)] w fun e' w' => e' = .returned (.bool (goneB M D.t pb pi ky)) ∧ ∃ X', Wq w0 w' base WB (goneM M D.t pb pi ky) r j l X' := by
  have hk4 := h.pg.k4
  obtain ⟨ts, hts⟩ : ∃ ts, X.ts = ts := ⟨_, rfl⟩
  obtain ⟨q, hqq⟩ : ∃ q, q = qAt M pb pi := ⟨_, rfl⟩
  obtain ⟨ix, hix⟩ : ∃ ix, ix = S10.idx (S10.byThread (D.t : Int)) q := ⟨_, rfl⟩
  obtain ⟨lf, hlf⟩ : ∃ lf, lf = S10.cutL q ix := ⟨_, rfl⟩
  have hqu : Calls Tryz.prog 46 #[ts, .agg #[.int .i64 pb, .int .i64 (pi : Int)]] w.drew fun e w' => ∃ A', e = .returned (.slice A' q.length q.length) ∧ S10.Rd w' w'.heap.size A' (S10.flat q) ∧ Below w.drew.heap.size w.drew w' := by
    have := (h.new (Below.refl _ w).drew).pg.queue (b := pb) hpb (i := pi) hpi (by omega)
    rw [hts] at this
    rw [hqq]
    refine this.mono ?_
    rintro e w' ⟨A', rfl, hr, hb'⟩
    exact ⟨A', rfl, hr.rd, hb'⟩
  have hll : lf.length ≤ 900 := by rw [hlf]; have := S10.cutL_len q ix; rw [hqq] at this ⊢; omega
  have hput : ∀ W (A0 : Option Addr) rr X', X'.ts = ts → Wq w0 W base WB M rr j l X' → S10.Rd W W.heap.size A0 (S10.flat lf) → Calls Tryz.prog 58 #[ts, .agg #[.int .i64 pb, .int .i64 (pi : Int)], .slice A0 lf.length lf.length] W fun e w' => e = .returned (.bool true) ∧ ∃ X', Wq w0 w' base WB (M.putq pb pi lf) rr j l X' ∧ X'.ts = ts := fun W A0 rr X' hx hW hr => by
    have := hW.pg.put (b := pb) hpb (i := pi) hpi (D := lf) (c0 := lf.length) hr (Nat.le_refl _) (by omega)
    rw [hx] at this
    refine this.mono ?_
    rintro e w' ⟨rfl, X5, h5, ht5⟩
    exact ⟨rfl, X5, hW.pgq h5, ht5⟩
  have hnt : ∀ W rr X', Wq w0 W base WB (M.putq pb pi lf) rr j l X' → Calls Tryz.prog 218 #[Pw WB, .int .i64 (D.t : Int), .int .u8 5, .int .u32 (ky : Int)] W fun e w' => e = .returned (.tuple #[]) ∧ ∃ X', Wq w0 w' base WB ((M.putq pb pi lf).note ⟨((M.n + M.pn : Nat) : Int), (D.t : Int), 5, (ky : Int), -1, 0, 0⟩) rr j l X' := fun W rr X' hW => by
    refine (hW.pg.note (t := (D.t : Int)) (a := (ky : Int)) (k := 5) (by show M.n ≤ _; omega) (by show M.pn ≤ _; omega) (by show M.nD.length ≤ _; omega) (hT.below hW.pg.bl hT1) (by omega)).mono ?_
    rintro e w' ⟨rfl, X5, h5⟩
    exact ⟨rfl, X5, hW.pgq h5⟩
  have hof : ∀ W (A0 : Option Addr), S10.Rd W W.heap.size A0 (S10.flat q) → Calls Tryz.prog 272 #[.slice A0 q.length q.length, .int .i64 (D.t : Int)] W fun e w' => e = .returned (.int .i64 ix) ∧ Below W.heap.size W w' := fun W A0 hr => by
    rw [hix]
    exact S10.of_any q.length (D.t : Int) hr (Nat.le_refl _) (by rw [hqq]; omega)
  have hcu : ∀ W (A0 : Option Addr), S10.Rd W W.heap.size A0 (S10.flat q) → Calls Tryz.prog 193 #[.slice A0 q.length q.length, .int .i64 ix] W fun e w' => ∃ A, e = .returned (.tuple #[S10.ag (S10.cutE q ix), .slice A lf.length lf.length, .bool (S10.cutB q ix)]) ∧ S10.Row w' W.heap.size 3 (.slice A lf.length lf.length) lf.length (S10.flat lf) ∧ Below W.heap.size W w' := fun W A0 hr => by
    rw [hlf]
    exact S10.cut_any q.length ix hr (Nat.le_refl _) (by rw [hqq]; omega) (Nat.le_refl _) (by rw [hqq]; omega)
  obtain ⟨lst, hls⟩ : ∃ lst, lst = decide (0 ≤ S10.idx (S10.byKey (ky : Int)) lf) := ⟨_, rfl⟩
  have hhas : ∀ W (A0 : Option Addr), S10.Rd W W.heap.size A0 (S10.flat lf) → Calls Tryz.prog 195 #[.slice A0 lf.length lf.length, .int .u32 (ky : Int)] W fun e w' => e = .returned (.bool lst) ∧ Below W.heap.size W w' := fun W A0 hr => by
    rw [hls]
    exact S10.lhas_any lf.length (ky : Int) hr (Nat.le_refl _) (by omega)
  have hgb : goneB M D.t pb pi ky = !lst := by unfold goneB; rw [← hqq, ← hix, ← hlf, ← hls]
  have hgy : S10.cutB q ix = true → goneM M D.t pb pi ky = (M.putq pb pi lf).note ⟨((M.n + M.pn : Nat) : Int), (D.t : Int), 5, (ky : Int), -1, 0, 0⟩ := fun e => by unfold goneM; rw [← hqq, ← hix, ← hlf, if_pos e]
  have hgn : S10.cutB q ix = false → goneM M D.t pb pi ky = M := fun e => by unfold goneM; rw [← hqq, ← hix, e]; exact if_neg (by decide)
  rw [hgb]
  obtain ⟨E0, hE0⟩ : ∃ E0, E0 = S10.cutE q ix := ⟨_, rfl⟩
  obtain ⟨was, hwas⟩ : ∃ was, was = S10.cutB q ix := ⟨_, rfl⟩
  rw [← hE0, ← hwas] at hcu
  rw [← hwas] at hgy hgn
  have HQ := Lib.hid hqu; have HPT := Lib.hid hput; have HNT := Lib.hid hnt; have HOF := Lib.hid hof; have HCU := Lib.hid hcu; have HHAS := Lib.hid hhas; have HGY := Lib.hid hgy; have HGN := Lib.hid hgn
  have H := Lib.hid h; have HBR := Lib.hid hb; have HTS := Lib.hid hts
  rw [hts] at hk4
  have c0 : w.cell? ⟨B, 0, none⟩ = some (.int .i64 (D.t : Int)) := cell_row (h.blk 0 hb) 0
  have c6 : w.cell? ⟨B, 6, none⟩ = some (.int .i64 pb) := cell_row (h.blk 0 hb) 6
  have c7 : w.cell? ⟨B, 7, none⟩ = some (.int .i64 (pi : Int)) := cell_row (h.blk 0 hb) 7
  generalize goneM M D.t pb pi ky = MG at *
  clear h hb ht hn hpn hT hT1 hpb hpi hq hnl hts hqq hix hlf hqu hput hnt hof hcu hls hhas hgb hgy hgn hE0 hwas hll
  generalize q.length = nq at *
  generalize lf.length = nl at *
  go_enter Tryz.func269, Tryz.ntmps269
  go_upto_region 1 with fail
  refine wp_region_held_drew (S := fun w' => w'.cell? ⟨WB, 4, none⟩ = some ts ∧ w'.cell? ⟨B, 0, none⟩ = some (.int .i64 (D.t : Int)) ∧ w'.cell? ⟨B, 6, none⟩ = some (.int .i64 pb) ∧ w'.cell? ⟨B, 7, none⟩ = some (.int .i64 (pi : Int))) (by kernel_rfl) ?_ (fun hHeld => ?_)
  · exact ⟨by rw [← HTS.out]; exact (H.out.new (Below.refl _ _).drew).pg.k4, cell_row ((H.out.new (Below.refl _ _).drew).blk 0 HBR.out) 0, cell_row ((H.out.new (Below.refl _ _).drew).blk 0 HBR.out) 6, cell_row ((H.out.new (Below.refl _ _).drew).blk 0 HBR.out) 7⟩
  refine tA 0 ⟨some 11, .move (.tmp 1), 24, "parts.go:115", #[], none⟩ ?vgam1 ?rgam1
  (try simp only [Act.put, tC, tD, tE])
  refine tA 1 ⟨some 12, .nilCheck (.tmp 11), 0, "parts.go:115", #[⟨0, .data⟩], none⟩ ?vgam2 ?rgam2
  (try simp only [Act.put, tC, tD, tE])
  refine tA 2 ⟨some 13, .fieldAddr 47 (.tmp 12) 4, 0, "parts.go:115", #[⟨1, .data⟩], none⟩ ?vgam3 ?rgam3
  (try simp only [Act.put, tC, tD, tE])
  refine tA 3 ⟨some 14, .load 43 (.tmp 13), 43, "parts.go:115", #[⟨2, .data⟩], none⟩ ?vgam4 ?rgam4
  (try simp only [Act.put, tC, tD, tE])
  refine tA 4 ⟨some 15, .move (.tmp 0), 32, "parts.go:115", #[], none⟩ ?vgam5 ?rgam5
  (try simp only [Act.put, tC, tD, tE])
  refine tA 5 ⟨some 16, .nilCheck (.tmp 15), 0, "parts.go:115", #[⟨4, .data⟩], none⟩ ?vgam6 ?rgam6
  (try simp only [Act.put, tC, tD, tE])
  refine tA 6 ⟨some 17, .fieldAddr 125 (.tmp 16) 3, 0, "parts.go:115", #[⟨5, .data⟩], none⟩ ?vgam7 ?rgam7
  (try simp only [Act.put, tC, tD, tE])
  refine tA 7 ⟨some 18, .load 97 (.tmp 17), 97, "parts.go:115", #[⟨6, .data⟩], none⟩ ?vgam8 ?rgam8
  (try simp only [Act.put, tC, tD, tE])
  refine wpAnyH_ready (rs := [8]) (by kernel_rfl) (by simp) ?_
  refine AllReadyH.cons (o := ⟨some 19, .call ⟨.value (.func 46), #[.tmp 14, .tmp 18], #[43, 97]⟩, 106, "parts.go:115", #[⟨3, .data⟩, ⟨7, .data⟩], none⟩) rfl (fun Kq hKq => ?_) AllReadyH.nil
  go_simp
  (refine HQ.out.mono ?_; rintro e' w2 ⟨A2, rfl, hr2, hb2⟩; have H2 := Lib.hid ((H.out.new (Below.refl _ _).drew).new hb2); have HR2 := Lib.hid hr2; clear hr2 hb2)
  refine hKq.out _ _ ?_ (fun hHeld => ?_)
  · exact ⟨by rw [← HTS.out]; exact H2.out.pg.k4, cell_row (H2.out.blk 0 HBR.out) 0, cell_row (H2.out.blk 0 HBR.out) 6, cell_row (H2.out.blk 0 HBR.out) 7⟩
  clear hKq Kq
  (try simp only [Act.put, tC, tD, tE])
  refine tA 9 ⟨some 7, .assign (.tmp 19), 106, "parts.go:115", #[⟨8, .data⟩, ⟨8, .chain⟩, ⟨0, .phase⟩, ⟨1, .phase⟩, ⟨2, .phase⟩, ⟨3, .phase⟩, ⟨4, .phase⟩, ⟨5, .phase⟩, ⟨6, .phase⟩, ⟨7, .phase⟩, ⟨8, .phase⟩], none⟩ ?vgam9 ?rgam9
  (try simp only [Act.put, tC, tD, tE])
  refine wpAnyH_done (by kernel_rfl) ?_ _
  clear hHeld c0 c6 c7 hk4
  have c0 : w2.cell? ⟨B, 0, none⟩ = some (.int .i64 (D.t : Int)) := cell_row (H2.out.blk 0 HBR.out) 0
  go_upto_region 3 with (first
    | (go_at_call 272; refine (HOF.out _ _ HR2.out).mono ?_; rintro e' w3 ⟨rfl, hb3⟩; have H3 := Lib.hid (H2.out.new hb3); have HR3 := Lib.hid ((HR2.out.below hb3 (Nat.le_refl _)).more hb3.size); clear hb3)
    | (go_at_call 193; refine (HCU.out _ _ HR3.out).mono ?_; rintro e' w4 ⟨A4, rfl, hr4, hb4⟩; have H4 := Lib.hid (H3.out.pushP (sliceP (.slice A4 nl nl) nl (S10.flat lf)) hb4 (hr4.base (Nat.zero_le _)) (fun k e => (hr4.lt k e).1)); clear hr4 hb4))
  clear c0
  have H4z := Lib.hid (H4.out.new (below1 w4 (.cells #[.int .i64 E0.t, .int .u32 E0.k, .int .u64 E0.z] 121)))
  generalize w4.alloc (.cells #[.int .i64 E0.t, .int .u32 E0.k, .int .u64 E0.z] 121) = w5 at *
  cases was
  · have hm := HGN.out rfl
    subst hm
    have HH := Lib.hid (HHAS.out _ A4 (H4z.out.lastP H.out.hj).rd)
    go_wp2_with (go_at_call 195; refine HH.out.mono ?_; rintro e' w6 ⟨rfl, hb6⟩)
    go_ret
    exact ⟨rfl, X, (H4z.out.new hb6).dropP H.out.hj⟩
  · have hm := HGY.out rfl
    subst hm
    have HPUT := Lib.hid (HPT.out _ A4 _ _ HTS.out (H4z.out.new (Below.refl _ _).drew) (H4z.out.lastP H.out.hj).rd)
    go_upto_region 4 with fail
    refine wp_region_held_drew (S := fun w' => w'.cell? ⟨WB, 4, none⟩ = some ts ∧ w'.cell? ⟨B, 0, none⟩ = some (.int .i64 (D.t : Int)) ∧ w'.cell? ⟨B, 6, none⟩ = some (.int .i64 pb) ∧ w'.cell? ⟨B, 7, none⟩ = some (.int .i64 (pi : Int))) (by kernel_rfl) ?_ (fun hHeld => ?_)
    · exact ⟨by rw [← HTS.out]; exact (H4z.out.new (Below.refl _ _).drew).pg.k4, cell_row ((H4z.out.new (Below.refl _ _).drew).blk 0 HBR.out) 0, cell_row ((H4z.out.new (Below.refl _ _).drew).blk 0 HBR.out) 6, cell_row ((H4z.out.new (Below.refl _ _).drew).blk 0 HBR.out) 7⟩
    refine tA 0 ⟨some 34, .move (.tmp 1), 24, "parts.go:118", #[], none⟩ ?vgbm1 ?rgbm1
    (try simp only [Act.put, tC, tD, tE])
    refine tA 1 ⟨some 35, .nilCheck (.tmp 34), 0, "parts.go:118", #[⟨0, .data⟩], none⟩ ?vgbm2 ?rgbm2
    (try simp only [Act.put, tC, tD, tE])
    refine tA 2 ⟨some 36, .fieldAddr 47 (.tmp 35) 4, 0, "parts.go:118", #[⟨1, .data⟩], none⟩ ?vgbm3 ?rgbm3
    (try simp only [Act.put, tC, tD, tE])
    refine tA 3 ⟨some 37, .load 43 (.tmp 36), 43, "parts.go:118", #[⟨2, .data⟩], none⟩ ?vgbm4 ?rgbm4
    (try simp only [Act.put, tC, tD, tE])
    refine tA 4 ⟨some 38, .move (.tmp 0), 32, "parts.go:118", #[], none⟩ ?vgbm5 ?rgbm5
    (try simp only [Act.put, tC, tD, tE])
    refine tA 5 ⟨some 39, .nilCheck (.tmp 38), 0, "parts.go:118", #[⟨4, .data⟩], none⟩ ?vgbm6 ?rgbm6
    (try simp only [Act.put, tC, tD, tE])
    refine tA 6 ⟨some 40, .fieldAddr 125 (.tmp 39) 3, 0, "parts.go:118", #[⟨5, .data⟩], none⟩ ?vgbm7 ?rgbm7
    (try simp only [Act.put, tC, tD, tE])
    refine tA 7 ⟨some 41, .load 97 (.tmp 40), 97, "parts.go:118", #[⟨6, .data⟩], none⟩ ?vgbm8 ?rgbm8
    (try simp only [Act.put, tC, tD, tE])
    refine tA 8 ⟨some 42, .move (.tmp 9), 106, "parts.go:118", #[], none⟩ ?vgbm9 ?rgbm9
    (try simp only [Act.put, tC, tD, tE])
    refine wpAnyH_ready (rs := [9]) (by kernel_rfl) (by simp) ?_
    refine AllReadyH.cons (o := ⟨some 43, .call ⟨.value (.func 58), #[.tmp 37, .tmp 41, .tmp 42], #[43, 97, 106]⟩, 4, "parts.go:118", #[⟨3, .data⟩, ⟨7, .data⟩, ⟨8, .data⟩], none⟩) rfl (fun Kq hKq => ?_) AllReadyH.nil
    go_simp
    (refine HPUT.out.mono ?_; rintro e' w6 ⟨rfl, X6, h6, hts6⟩; have H6 := Lib.hid h6; have HT6 := Lib.hid hts6; clear h6 hts6)
    refine hKq.out _ _ ?_ (fun hHeld => ?_)
    · exact ⟨by rw [← HT6.out]; exact H6.out.pg.k4, cell_row (H6.out.blk 0 HBR.out) 0, cell_row (H6.out.blk 0 HBR.out) 6, cell_row (H6.out.blk 0 HBR.out) 7⟩
    clear hKq Kq
    (try simp only [Act.put, tC, tD, tE])
    refine wpAnyH_done (by kernel_rfl) ?_ _
    clear hHeld
    have c0 : w6.cell? ⟨B, 0, none⟩ = some (.int .i64 (D.t : Int)) := cell_row (H6.out.blk 0 HBR.out) 0
    have HN := Lib.hid (HNT.out _ _ _ H6.out)
    go_upto_region 6 with (go_at_call 218; refine HN.out.mono ?_; rintro e' w7 ⟨rfl, X7, h7⟩; have H7 := Lib.hid h7; clear h7)
    have HH := Lib.hid (HHAS.out _ A4 (H7.out.lastP H.out.hj).rd)
    go_wp2_with (go_at_call 195; refine HH.out.mono ?_; rintro e' w8 ⟨rfl, hb8⟩)
    go_ret
    exact ⟨rfl, X7, (H7.out.new hb8).dropP H.out.hj⟩
end
end Go.Proofs.YtieiiabbeglmfaaGreatDoor.S18
namespace Go.Proofs.YtieiiabbeglmfaaGreatDoor.S2
set_option maxRecDepth 100000
set_option maxHeartbeats 16000000
open Go.Proofs.YtieiiabbeglmfaaGreatDoor
def cpl (d : Nat) : Nat := 18446744073709551615 - d
theorem cpl_lt (d : Nat) : cpl d < 18446744073709551616 := by unfold cpl; omega
theorem test_cpl (d i : Nat) (hd : d < 18446744073709551616) : (cpl d).testBit i = (decide (i < 64) && !d.testBit i) := by
  have h := Nat.testBit_two_pow_sub_succ (x := d) (n := 64) hd i
  rw [← h]
  congr 1
  unfold cpl
  simp only [Nat.reducePow]
  omega
theorem xor_cpl (d : Nat) (hd : d < 18446744073709551616) : 18446744073709551615 ^^^ d = cpl d := by
  apply Nat.eq_of_testBit_eq
  intro i
  rw [Nat.testBit_xor, test_cpl d i hd, show (18446744073709551615 : Nat) = 2 ^ 64 - 1 from rfl, Nat.testBit_two_pow_sub_one]
  by_cases h : i < 64
  · simp [h]
  · have : d.testBit i = false := Nat.testBit_lt_two_pow (Nat.lt_of_lt_of_le hd (Nat.pow_le_pow_right (n := 2) (by omega) (by omega : 64 ≤ i)))
    simp [h, this]
theorem bits_not (d : Nat) (hd : d < 18446744073709551616) : bits .xor .u64 IntKind.u64.max (d : Int) = ((cpl d : Nat) : Int) := by
  rw [show IntKind.u64.max = ((18446744073709551615 : Nat) : Int) from rfl]
  rw [← xor_cpl d hd]
  exact bits_xor_u64_nat 18446744073709551615 d (by omega) hd
end Go.Proofs.YtieiiabbeglmfaaGreatDoor.S2
