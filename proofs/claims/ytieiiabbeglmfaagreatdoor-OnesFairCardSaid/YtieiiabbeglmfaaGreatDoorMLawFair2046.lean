/- Texts of this seat, one behind the other. -/
import Derived.Test.YtieiiabbeglmfaaGreatDoorMLawFair201
import Derived.Test.YtieiiabbeglmfaaGreatDoorMLawFair2045
set_option linter.unusedVariables false
set_option linter.unusedSimpArgs false
set_option linter.unusedVariables false
set_option linter.unusedSimpArgs false
namespace Go.Proofs.YtieiiabbeglmfaaGreatDoor.S19
set_option maxRecDepth 100000
set_option maxHeartbeats 16000000
open Go.Proofs.YtieiiabbeglmfaaGreatDoor Go.Proofs.YtieiiabbeglmfaaGreatDoor.S11 Go.Proofs.YtieiiabbeglmfaaGreatDoor.S12 Go.Proofs.YtieiiabbeglmfaaGreatDoor.S13 Go.Proofs.YtieiiabbeglmfaaGreatDoor.S14 Go.Proofs.YtieiiabbeglmfaaGreatDoor.S15 Go.Proofs.YtieiiabbeglmfaaGreatDoor.S16 Go.Proofs.YtieiiabbeglmfaaGreatDoor.S18
open Go.RowKit
section
variable {w0 w w' : World} {base WB : Nat} {M : Sd} {r : List Part} {j e u B : Nat} {X : Wm} {D : Od} {R : Ro} {ln : Nat} {told : Bool} {lv : Value} {E : En} {Z : Wb}
theorem take_ {pb : Int} {pi : Nat} (h : Wq w0 w base WB M r j [(B, onO ln D told R (Pw Z.B) lv)] X) (s : EwS r e u E Z) (hje : j ≠ e) (hju : j ≠ u) (h0 : E.ln = 0) (hkw : E.kw = D.k) (hk : D.k < 4294967296) (how : E.ow = false) (hpb : pb = (bitsN E.tw : Int)) (hpi : pi = bktN D.k E.tw)
    (hn : M.n ≤ 900000000) (hpn : M.pn ≤ 900000000) (hT : Tab w0) (hT1 : 0 < base)
    (hI : S10.InI pb) (hil : pi < (M.m pb).length) (hq : (qAt M pb pi).length ≤ 900) (hnl : M.nD.length ≤ 90000)
    (hfire : ∀ W rr ll X', takeB M pb pi D.k = true → Wq w0 W base WB (takeN M D.t pb pi D.k) rr j ll X' → Calls Tryz.prog 196 #[Pw WB, .agg #[.int .i64 pb, .int .i64 (pi : Int)]] W fun e w' => e = .returned (.bool (fireB (takeN M D.t pb pi D.k) pb pi)) ∧ ∃ X', Wq w0 w' base WB (fireM (takeN M D.t pb pi D.k) pb pi) rr j ll X') :
    Calls Tryz.prog 169 #[Pw B, Pw WB] w fun e' w' => e' = .returned (roV (takeR M D.t pb pi D.k)) ∧ ∃ X', Wq w0 w' base WB (takeM M D.t pb pi D.k) r j [(B, onO ln D told R (Pw Z.B) lv)] X' := by
  obtain ⟨ts, hts⟩ : ∃ ts, X.ts = ts := ⟨_, rfl⟩
  obtain ⟨q, hqq⟩ : ∃ q, q = qAt M pb pi := ⟨_, rfl⟩
  obtain ⟨ix, hix⟩ : ∃ ix, ix = S10.idx (S10.byKey (D.k : Int)) q := ⟨_, rfl⟩
  obtain ⟨lf, hlf⟩ : ∃ lf, lf = S10.cutL q ix := ⟨_, rfl⟩
  have hgot : ∀ W, Below w.heap.size w W → Calls Tryz.prog 102 #[Pw Z.B] W fun e w' => e = .returned (.agg #[.int .i64 pb, .int .i64 (pi : Int)]) ∧ Below W.heap.size W w' := fun W hW => by
    obtain ⟨gb, gi⟩ := s.pl (.inr h0)
    have := egot_yes (wq_ew (h.new hW) s hje hju).wy (ews_got s h0)
    rw [gb, gi, hkw, Nat.mod_eq_of_lt hk, ← hpb, ← hpi] at this
    exact this
  have hqu : ∀ W rr ll X', X'.ts = ts → Wq w0 W base WB M rr j ll X' → Calls Tryz.prog 46 #[ts, .agg #[.int .i64 pb, .int .i64 (pi : Int)]] W fun e w' => ∃ A', e = .returned (.slice A' q.length q.length) ∧ S10.Rd w' w'.heap.size A' (S10.flat q) ∧ Below W.heap.size W w' := fun W rr ll X' hx hW => by
    have := hW.pg.queue (b := pb) hI (i := pi) hil (by omega)
    rw [hx] at this
    rw [hqq]
    refine this.mono ?_
    rintro e w' ⟨A', rfl, hr, hb'⟩
    exact ⟨A', rfl, hr.rd, hb'⟩
  have hll : lf.length ≤ 900 := by rw [hlf]; have := S10.cutL_len q ix; rw [hqq] at this ⊢; omega
  have eI : takeI M pb pi D.k = ix := by unfold takeI; rw [← hqq, ← hix]
  have eL : takeL M pb pi D.k = lf := by unfold takeL; rw [eI, ← hqq, ← hlf]
  obtain ⟨E0, hE0⟩ : ∃ E0, E0 = S10.cutE q ix := ⟨_, rfl⟩
  obtain ⟨was, hwas⟩ : ∃ was, was = S10.cutB q ix := ⟨_, rfl⟩
  have eW : takeW M pb pi D.k = E0.t := by unfold takeW; rw [eI, ← hqq, ← hE0]
  have eB : takeB M pb pi D.k = was := by unfold takeB; rw [eI, ← hqq, ← hwas]
  have eN : takeN M D.t pb pi D.k = (M.putq pb pi lf).note ⟨((M.n + M.pn : Nat) : Int), (D.t : Int), 2, (D.k : Int), E0.t, 0, 0⟩ := by unfold takeN; rw [eL, eW]
  have hput : ∀ W (A0 : Option Addr) rr ll X', X'.ts = ts → Wq w0 W base WB M rr j ll X' → S10.Rd W W.heap.size A0 (S10.flat lf) → Calls Tryz.prog 58 #[ts, .agg #[.int .i64 pb, .int .i64 (pi : Int)], .slice A0 lf.length lf.length] W fun e w' => e = .returned (.bool true) ∧ ∃ X', Wq w0 w' base WB (M.putq pb pi lf) rr j ll X' ∧ X'.ts = ts := fun W A0 rr ll X' hx hW hr => by
    have := hW.pg.put (b := pb) hI (i := pi) hil (D := lf) (c0 := lf.length) hr (Nat.le_refl _) (by omega)
    rw [hx] at this
    refine this.mono ?_
    rintro e w' ⟨rfl, X5, h5, ht5⟩
    exact ⟨rfl, X5, hW.pgq h5, ht5⟩
  have hnt : ∀ W rr ll X', Wq w0 W base WB (M.putq pb pi lf) rr j ll X' → Calls Tryz.prog 179 #[Pw WB, .int .i64 (D.t : Int), .int .u8 2, .int .u32 (D.k : Int), .int .i64 E0.t, .int .u32 0] W fun e w' => e = .returned (.tuple #[]) ∧ ∃ X', Wq w0 w' base WB (takeN M D.t pb pi D.k) rr j ll X' := fun W rr ll X' hW => by
    rw [eN]
    refine (hW.pg.noteOf (t := (D.t : Int)) (a := (D.k : Int)) (o := E0.t) (b := 0) (k := 2) (by show M.n ≤ _; omega) (by show M.pn ≤ _; omega) (by show M.nD.length ≤ _; omega) (hT.below hW.pg.bl hT1) (by omega)).mono ?_
    rintro e w' ⟨rfl, X5, h5⟩
    exact ⟨rfl, X5, hW.pgq h5⟩
  have hfi : ∀ W (A0 : Option Addr), S10.Rd W W.heap.size A0 (S10.flat q) → Calls Tryz.prog 194 #[.slice A0 q.length q.length, .int .u32 (D.k : Int)] W fun e w' => e = .returned (.int .i64 ix) ∧ Below W.heap.size W w' := fun W A0 hr => by
    rw [hix]
    exact S10.first_any q.length (D.k : Int) hr (Nat.le_refl _) (by rw [hqq]; omega)
  have hcu : ∀ W (A0 : Option Addr), S10.Rd W W.heap.size A0 (S10.flat q) → Calls Tryz.prog 193 #[.slice A0 q.length q.length, .int .i64 ix] W fun e w' => ∃ A, e = .returned (.tuple #[S10.ag (S10.cutE q ix), .slice A lf.length lf.length, .bool (S10.cutB q ix)]) ∧ S10.Row w' W.heap.size 3 (.slice A lf.length lf.length) lf.length (S10.flat lf) ∧ Below W.heap.size W w' := fun W A0 hr => by
    rw [hlf]
    exact S10.cut_any q.length ix hr (Nat.le_refl _) (by rw [hqq]; omega) (Nat.le_refl _) (by rw [hqq]; omega)
  obtain ⟨lst, hls⟩ : ∃ lst, lst = decide (0 ≤ S10.idx (S10.byKey (D.k : Int)) lf) := ⟨_, rfl⟩
  have hhas : ∀ W (A0 : Option Addr), S10.Rd W W.heap.size A0 (S10.flat lf) → Calls Tryz.prog 195 #[.slice A0 lf.length lf.length, .int .u32 (D.k : Int)] W fun e w' => e = .returned (.bool lst) ∧ Below W.heap.size W w' := fun W A0 hr => by
    rw [hls]
    exact S10.lhas_any lf.length (D.k : Int) hr (Nat.le_refl _) (by omega)
  obtain ⟨fr, hfr⟩ : ∃ fr, fr = fireB (takeN M D.t pb pi D.k) pb pi := ⟨_, rfl⟩
  rw [eB, ← hfr] at hfire
  have eRy : was = true → takeR M D.t pb pi D.k = ⟨1, lst, fr, E0.t⟩ := fun e => by unfold takeR; rw [eB, if_pos e, eL, eW, ← hls, ← hfr]
  have eRn : was = false → takeR M D.t pb pi D.k = roN := fun e => by unfold takeR; rw [eB, e]; exact if_neg (by decide)
  have eMy : was = true → takeM M D.t pb pi D.k = fireM (takeN M D.t pb pi D.k) pb pi := fun e => by unfold takeM; rw [eB, if_pos e]
  have eMn : was = false → takeM M D.t pb pi D.k = M := fun e => by unfold takeM; rw [eB, e]; exact if_neg (by decide)
  rw [← hE0, ← hwas] at hcu
  have HG := Lib.hid hgot; have HQU := Lib.hid hqu; have HPT := Lib.hid hput; have HNT := Lib.hid hnt; have HFIX := Lib.hid hfi; have HCU := Lib.hid hcu; have HHAS := Lib.hid hhas; have HFI := Lib.hid hfire
  have HRY := Lib.hid eRy; have HRN := Lib.hid eRn; have HMY := Lib.hid eMy; have HMN := Lib.hid eMn
  have H := Lib.hid h; have HTS := Lib.hid hts
  generalize takeM M D.t pb pi D.k = MG at *
  generalize takeR M D.t pb pi D.k = RG at *
  generalize takeN M D.t pb pi D.k = MN at *
  clear s hje hju h0 hkw hk how hpb hpi hn hpn hT hT1 hI hil hq hnl hfire hqq hix hlf hgot hqu hll eI eL hE0 hwas eW eB eN hput hnt hfi hcu hls hhas hfr eRy eRn eMy eMn hts
  generalize q.length = nq at *
  have HLF : Hid (∃ nl, nl = lf.length) := Lib.hid ⟨_, rfl⟩
  obtain ⟨nl, hnl2⟩ := HLF.out
  rw [← hnl2] at HPT HCU HHAS
  clear hnl2 HLF
  have h1 := h.push (.cells #[.int .i64 0, .int .i64 0, .bool false, .bool false, .int .i64 0] 69)
  obtain ⟨RB, hRB⟩ : ∃ RB, RB = w.heap.size := ⟨_, rfl⟩
  rw [← hRB] at h1
  have H1 := Lib.hid h1; have HRB := Lib.hid hRB
  have HB1 := Lib.hid (below1 w (.cells #[.int .i64 0, .int .i64 0, .bool false, .bool false, .int .i64 0] 69))
  have c10 : (w.alloc (.cells #[.int .i64 0, .int .i64 0, .bool false, .bool false, .int .i64 0] 69)).cell? ⟨B, 10, none⟩ = some (Pw Z.B) := cell_row (h1.blk 0 rfl) 10
  clear h h1 hRB
  go_enter Tryz.func169, Tryz.ntmps169
  go_upto_region 1 with fail
  rw [← HRB.out]
  generalize w.alloc (.cells #[.int .i64 0, .int .i64 0, .bool false, .bool false, .int .i64 0] 69) = w1 at *
  go_upto_region 2 with (go_at_call 102; refine (HG.out _ (by first | exact HB1.out | exact HB1.out.drew)).mono ?_; rintro e' w2 ⟨rfl, hb2⟩; have H2 := Lib.hid (H1.out.new (by first | exact hb2 | exact (Below.refl _ _).drew.trans hb2)); clear hb2)
  clear c10
  have h3 := H2.out.push (.cells #[.int .i64 pb, .int .i64 (pi : Int)] 97)
  obtain ⟨PB, hPB⟩ : ∃ PB, PB = w2.heap.size := ⟨_, rfl⟩
  rw [← hPB] at h3 ⊢
  have H3 := Lib.hid h3
  clear h3 hPB
  generalize w2.alloc (.cells #[.int .i64 pb, .int .i64 (pi : Int)] 97) = w3 at *
  refine wp_region_held_drew (S := fun w' => w'.cell? ⟨WB, 4, none⟩ = some ts ∧ w'.cell? ⟨PB, 0, none⟩ = some (.int .i64 pb) ∧ w'.cell? ⟨PB, 1, none⟩ = some (.int .i64 (pi : Int))) (by kernel_rfl) ?_ (fun hHeld => ?_)
  · exact ⟨by rw [← HTS.out]; exact (H3.out.new (Below.refl _ _).drew).pg.k4, cell_row ((H3.out.new (Below.refl _ _).drew).blk 2 rfl) 0, cell_row ((H3.out.new (Below.refl _ _).drew).blk 2 rfl) 1⟩
  refine tA 0 ⟨some 15, .move (.tmp 1), 24, "ones.go:100", #[], none⟩ ?vtam1 ?rtam1
  (try simp only [Act.put, tC, tD, tE])
  refine tA 1 ⟨some 16, .nilCheck (.tmp 15), 0, "ones.go:100", #[⟨0, .data⟩], none⟩ ?vtam2 ?rtam2
  (try simp only [Act.put, tC, tD, tE])
  refine tA 2 ⟨some 17, .fieldAddr 47 (.tmp 16) 4, 0, "ones.go:100", #[⟨1, .data⟩], none⟩ ?vtam3 ?rtam3
  (try simp only [Act.put, tC, tD, tE])
  refine tA 3 ⟨some 18, .load 43 (.tmp 17), 43, "ones.go:100", #[⟨2, .data⟩], none⟩ ?vtam4 ?rtam4
  (try simp only [Act.put, tC, tD, tE])
  refine tA 4 ⟨some 19, .load 97 (.tmp 5), 97, "ones.go:100", #[], none⟩ ?vtam5 ?rtam5
  (try simp only [Act.put, tC, tD, tE])
  refine wpAnyH_ready (rs := [5]) (by kernel_rfl) (by simp) ?_
  refine AllReadyH.cons (o := ⟨some 20, .call ⟨.value (.func 46), #[.tmp 18, .tmp 19], #[43, 97]⟩, 106, "ones.go:100", #[⟨3, .data⟩, ⟨4, .data⟩], none⟩) rfl (fun Kq hKq => ?_) AllReadyH.nil
  go_simp
  (refine (HQU.out _ _ _ _ HTS.out (H3.out.new (Below.refl _ _).drew)).mono ?_; rintro e' w4 ⟨A4, rfl, hr4, hb4⟩; have H4 := Lib.hid ((H3.out.new (Below.refl _ _).drew).new hb4); have HR4 := Lib.hid hr4; clear hr4 hb4)
  refine hKq.out _ _ ?_ (fun hHeld => ?_)
  · exact ⟨by rw [← HTS.out]; exact H4.out.pg.k4, cell_row (H4.out.blk 2 rfl) 0, cell_row (H4.out.blk 2 rfl) 1⟩
  clear hKq Kq
  (try simp only [Act.put, tC, tD, tE])
  refine tA 6 ⟨some 6, .assign (.tmp 20), 106, "ones.go:100", #[⟨5, .data⟩, ⟨5, .chain⟩, ⟨0, .phase⟩, ⟨1, .phase⟩, ⟨2, .phase⟩, ⟨3, .phase⟩, ⟨4, .phase⟩, ⟨5, .phase⟩], none⟩ ?vtam6 ?rtam6
  (try simp only [Act.put, tC, tD, tE])
  refine wpAnyH_done (by kernel_rfl) ?_ _
  clear hHeld
  have c2 : w4.cell? ⟨B, 2, none⟩ = some (.int .u32 (D.k : Int)) := cell_row (H4.out.blk 0 rfl) 2
  go_upto_region 4 with (first
    | (go_at_call 194; refine (HFIX.out _ _ HR4.out).mono ?_; rintro e' w5 ⟨rfl, hb5⟩; have H5 := Lib.hid (H4.out.new hb5); have HR5 := Lib.hid ((HR4.out.below hb5 (Nat.le_refl _)).more hb5.size); clear hb5)
    | (go_at_call 193; refine (HCU.out _ _ HR5.out).mono ?_; rintro e' w6 ⟨A6, rfl, hr6, hb6⟩; have H6 := Lib.hid (H5.out.pushP (sliceP (.slice A6 nl nl) nl (S10.flat lf)) hb6 (hr6.base (Nat.zero_le _)) (fun k e => (hr6.lt k e).1)); clear hr6 hb6))
  clear c2
  have h7 := H6.out.push (.cells #[.int .i64 E0.t, .int .u32 E0.k, .int .u64 E0.z] 121)
  obtain ⟨EB, hEB⟩ : ∃ EB, EB = w6.heap.size := ⟨_, rfl⟩
  rw [← hEB] at h7 ⊢
  have H7 := Lib.hid h7
  clear h7 hEB
  generalize w6.alloc (.cells #[.int .i64 E0.t, .int .u32 E0.k, .int .u64 E0.z] 121) = w7 at *
  have HND : Hid ([(B, onO ln D told R (Pw Z.B) lv)].map Prod.fst).Nodup := Lib.hid (by simp)
  cases was
  · have hm := HMN.out rfl
    have hr := HRN.out rfl
    subst hm hr
    have q0 := cell_row (H7.out.blk 1 rfl) 0; have q1 := cell_row (H7.out.blk 1 rfl) 1; have q2 := cell_row (H7.out.blk 1 rfl) 2; have q3 := cell_row (H7.out.blk 1 rfl) 3; have q4 := cell_row (H7.out.blk 1 rfl) 4
    have f0 := froz_row (H7.out.blk 1 rfl) 0; have f1 := froz_row (H7.out.blk 1 rfl) 1; have f2 := froz_row (H7.out.blk 1 rfl) 2; have f3 := froz_row (H7.out.blk 1 rfl) 3; have f4 := froz_row (H7.out.blk 1 rfl) 4
    go_wp2_with fail
    clear q0 q1 q2 q3 q4 f0 f1 f2 f3 f4
    have z0 := H7.out.put 1 rfl 0 (.int .i64 0) rfl
    have z1 := z0.put 1 rfl 1 (.int .i64 0) rfl
    have z2 := z1.put 1 rfl 2 (.bool false) rfl
    have z3 := z2.put 1 rfl 3 (.bool false) rfl
    have z4 := z3.put 1 rfl 4 (.int .i64 (-1)) rfl
    have H8 := Lib.hid z4
    clear z0 z1 z2 z3 z4
    generalize (((((w7.setCell ⟨RB, 0, none⟩ (.int .i64 0)).setCell ⟨RB, 1, none⟩ (.int .i64 0)).setCell ⟨RB, 2, none⟩ (.bool false)).setCell ⟨RB, 3, none⟩ (.bool false)).setCell ⟨RB, 4, none⟩ (.int .i64 (-1))) = w8 at *
    have p0 : w8.cell? ⟨RB, 0, none⟩ = some (.int .i64 0) := cell_row (H8.out.blk 1 rfl) 0; have p1 : w8.cell? ⟨RB, 1, none⟩ = some (.int .i64 0) := cell_row (H8.out.blk 1 rfl) 1; have p2 : w8.cell? ⟨RB, 2, none⟩ = some (.bool false) := cell_row (H8.out.blk 1 rfl) 2; have p3 : w8.cell? ⟨RB, 3, none⟩ = some (.bool false) := cell_row (H8.out.blk 1 rfl) 3; have p4 : w8.cell? ⟨RB, 4, none⟩ = some (.int .i64 (-1)) := cell_row (H8.out.blk 1 rfl) 4
    exact bodyPost_ret (v := roV roN) (by simp [results, Tryz.results169, go_sem, p0, p1, p2, p3, p4, roV, roN]) rfl ⟨rfl, X, (H8.out.only (l' := [(B, onO ln D told R (Pw Z.B) lv)]) (fun x hx => by rw [List.mem_singleton] at hx; rw [hx]; exact List.mem_cons_self) HND.out).dropP H.out.hj⟩
  · have hm := HMY.out rfl
    have hr := HRY.out rfl
    subst hm hr
    have HPUT := Lib.hid (HPT.out _ A6 _ _ _ HTS.out (H7.out.new (Below.refl _ _).drew) (H7.out.lastP H.out.hj).rd)
    go_upto_region 6 with fail
    refine wp_region_held_drew (S := fun w' => w'.cell? ⟨WB, 4, none⟩ = some ts ∧ w'.cell? ⟨PB, 0, none⟩ = some (.int .i64 pb) ∧ w'.cell? ⟨PB, 1, none⟩ = some (.int .i64 (pi : Int))) (by kernel_rfl) ?_ (fun hHeld => ?_)
    · exact ⟨by rw [← HTS.out]; exact (H7.out.new (Below.refl _ _).drew).pg.k4, cell_row ((H7.out.new (Below.refl _ _).drew).blk 2 rfl) 0, cell_row ((H7.out.new (Below.refl _ _).drew).blk 2 rfl) 1⟩
    refine tA 0 ⟨some 36, .move (.tmp 1), 24, "ones.go:105", #[], none⟩ ?vtbm1 ?rtbm1
    (try simp only [Act.put, tC, tD, tE])
    refine tA 1 ⟨some 37, .nilCheck (.tmp 36), 0, "ones.go:105", #[⟨0, .data⟩], none⟩ ?vtbm2 ?rtbm2
    (try simp only [Act.put, tC, tD, tE])
    refine tA 2 ⟨some 38, .fieldAddr 47 (.tmp 37) 4, 0, "ones.go:105", #[⟨1, .data⟩], none⟩ ?vtbm3 ?rtbm3
    (try simp only [Act.put, tC, tD, tE])
    refine tA 3 ⟨some 39, .load 43 (.tmp 38), 43, "ones.go:105", #[⟨2, .data⟩], none⟩ ?vtbm4 ?rtbm4
    (try simp only [Act.put, tC, tD, tE])
    refine tA 4 ⟨some 40, .load 97 (.tmp 5), 97, "ones.go:105", #[], none⟩ ?vtbm5 ?rtbm5
    (try simp only [Act.put, tC, tD, tE])
    refine tA 5 ⟨some 41, .move (.tmp 8), 106, "ones.go:105", #[], none⟩ ?vtbm6 ?rtbm6
    (try simp only [Act.put, tC, tD, tE])
    refine wpAnyH_ready (rs := [6]) (by kernel_rfl) (by simp) ?_
    refine AllReadyH.cons (o := ⟨some 42, .call ⟨.value (.func 58), #[.tmp 39, .tmp 40, .tmp 41], #[43, 97, 106]⟩, 4, "ones.go:105", #[⟨3, .data⟩, ⟨4, .data⟩, ⟨5, .data⟩], none⟩) rfl (fun Kq hKq => ?_) AllReadyH.nil
    go_simp
    (refine HPUT.out.mono ?_; rintro e' w8 ⟨rfl, X8, h8, hts8⟩; have H8 := Lib.hid h8; have HT8 := Lib.hid hts8; clear h8 hts8)
    refine hKq.out _ _ ?_ (fun hHeld => ?_)
    · exact ⟨by rw [← HT8.out]; exact H8.out.pg.k4, cell_row (H8.out.blk 2 rfl) 0, cell_row (H8.out.blk 2 rfl) 1⟩
    clear hKq Kq
    (try simp only [Act.put, tC, tD, tE])
    refine wpAnyH_done (by kernel_rfl) ?_ _
    clear hHeld
    have HN := Lib.hid (HNT.out _ _ _ _ (H8.out.new (Below.refl _ _).drew))
    go_upto_region 7 with fail
    refine wp_region_held_drew (S := fun w' => w'.cell? ⟨B, 1, none⟩ = some (.int .i64 (D.t : Int)) ∧ w'.cell? ⟨B, 2, none⟩ = some (.int .u32 (D.k : Int)) ∧ w'.cell? ⟨EB, 0, none⟩ = some (.int .i64 E0.t)) (by kernel_rfl) ?_ (fun hHeld => ?_)
    · exact ⟨cell_row ((H8.out.new (Below.refl _ _).drew).blk 0 rfl) 1, cell_row ((H8.out.new (Below.refl _ _).drew).blk 0 rfl) 2, cell_row ((H8.out.new (Below.refl _ _).drew).blk 3 rfl) 0⟩
    refine tA 0 ⟨some 43, .move (.tmp 1), 24, "ones.go:106", #[], none⟩ ?vtcm1 ?rtcm1
    (try simp only [Act.put, tC, tD, tE])
    refine tA 1 ⟨some 44, .move (.tmp 0), 76, "ones.go:106", #[], none⟩ ?vtcm2 ?rtcm2
    (try simp only [Act.put, tC, tD, tE])
    refine tA 2 ⟨some 45, .nilCheck (.tmp 44), 0, "ones.go:106", #[⟨1, .data⟩], none⟩ ?vtcm3 ?rtcm3
    (try simp only [Act.put, tC, tD, tE])
    refine tA 3 ⟨some 46, .fieldAddr 75 (.tmp 45) 1, 0, "ones.go:106", #[⟨2, .data⟩], none⟩ ?vtcm4 ?rtcm4
    (try simp only [Act.put, tC, tD, tE])
    refine tA 4 ⟨some 47, .load 3 (.tmp 46), 3, "ones.go:106", #[⟨3, .data⟩], none⟩ ?vtcm5 ?rtcm5
    (try simp only [Act.put, tC, tD, tE])
    refine tA 5 ⟨some 48, .move (.tmp 0), 76, "ones.go:106", #[], none⟩ ?vtcm6 ?rtcm6
    (try simp only [Act.put, tC, tD, tE])
    refine tA 6 ⟨some 49, .nilCheck (.tmp 48), 0, "ones.go:106", #[⟨5, .data⟩], none⟩ ?vtcm7 ?rtcm7
    (try simp only [Act.put, tC, tD, tE])
    refine tA 7 ⟨some 50, .fieldAddr 75 (.tmp 49) 2, 0, "ones.go:106", #[⟨6, .data⟩], none⟩ ?vtcm8 ?rtcm8
    (try simp only [Act.put, tC, tD, tE])
    refine tA 8 ⟨some 51, .load 35 (.tmp 50), 35, "ones.go:106", #[⟨7, .data⟩], none⟩ ?vtcm9 ?rtcm9
    (try simp only [Act.put, tC, tD, tE])
    refine tA 9 ⟨some 52, .fieldAddr 121 (.tmp 7) 0, 0, "ones.go:106", #[], none⟩ ?vtcm10 ?rtcm10
    (try simp only [Act.put, tC, tD, tE])
    refine tA 10 ⟨some 53, .load 3 (.tmp 52), 3, "ones.go:106", #[⟨9, .data⟩], none⟩ ?vtcm11 ?rtcm11
    (try simp only [Act.put, tC, tD, tE])
    refine wpAnyH_ready (rs := [11]) (by kernel_rfl) (by simp) ?_
    refine AllReadyH.cons (o := ⟨some 54, .call ⟨.value (.func 179), #[.tmp 43, .tmp 47, .const (.int .u8 2), .tmp 51, .tmp 53, .const (.int .u32 0)], #[24, 3, 287, 35, 3, 35]⟩, 0, "ones.go:106", #[⟨0, .data⟩, ⟨4, .data⟩, ⟨8, .data⟩, ⟨10, .data⟩], none⟩) rfl (fun Kq hKq => ?_) AllReadyH.nil
    go_simp
    (refine HN.out.mono ?_; rintro e' w9 ⟨rfl, X9, h9⟩; have H9 := Lib.hid h9; clear h9)
    refine hKq.out _ _ ?_ (fun hHeld => ?_)
    · exact ⟨cell_row (H9.out.blk 0 rfl) 1, cell_row (H9.out.blk 0 rfl) 2, cell_row (H9.out.blk 3 rfl) 0⟩
    clear hKq Kq
    (try simp only [Act.put, tC, tD, tE])
    refine wpAnyH_done (by kernel_rfl) ?_ _
    clear hHeld
    have HH := Lib.hid (HHAS.out _ A6 ((H9.out.new (Below.refl _ _).drew).lastP H.out.hj).rd)
    have HFIRE := Lib.hid (fun W rr ll X' => HFI.out W rr ll X' rfl)
    go_upto_region 8 with fail
    refine wp_region_held_drew (S := fun w' => w'.cell? ⟨B, 2, none⟩ = some (.int .u32 (D.k : Int)) ∧ w'.cell? ⟨PB, 0, none⟩ = some (.int .i64 pb) ∧ w'.cell? ⟨PB, 1, none⟩ = some (.int .i64 (pi : Int)) ∧ w'.cell? ⟨EB, 0, none⟩ = some (.int .i64 E0.t)) (by kernel_rfl) ?_ (fun hHeld => ?_)
    · exact ⟨cell_row ((H9.out.new (Below.refl _ _).drew).blk 0 rfl) 2, cell_row ((H9.out.new (Below.refl _ _).drew).blk 2 rfl) 0, cell_row ((H9.out.new (Below.refl _ _).drew).blk 2 rfl) 1, cell_row ((H9.out.new (Below.refl _ _).drew).blk 3 rfl) 0⟩
    refine tA 0 ⟨some 55, .move (.tmp 8), 106, "ones.go:107", #[], none⟩ ?vtdm1 ?rtdm1
    (try simp only [Act.put, tC, tD, tE])
    refine tA 1 ⟨some 56, .move (.tmp 0), 76, "ones.go:107", #[], none⟩ ?vtdm2 ?rtdm2
    (try simp only [Act.put, tC, tD, tE])
    refine tA 2 ⟨some 57, .nilCheck (.tmp 56), 0, "ones.go:107", #[⟨1, .data⟩], none⟩ ?vtdm3 ?rtdm3
    (try simp only [Act.put, tC, tD, tE])
    refine tA 3 ⟨some 58, .fieldAddr 75 (.tmp 57) 2, 0, "ones.go:107", #[⟨2, .data⟩], none⟩ ?vtdm4 ?rtdm4
    (try simp only [Act.put, tC, tD, tE])
    refine tA 4 ⟨some 59, .load 35 (.tmp 58), 35, "ones.go:107", #[⟨3, .data⟩], none⟩ ?vtdm5 ?rtdm5
    (try simp only [Act.put, tC, tD, tE])
    refine tA 6 ⟨some 61, .move (.tmp 1), 24, "ones.go:107", #[], none⟩ ?vtdm6 ?rtdm6
    (try simp only [Act.put, tC, tD, tE])
    refine tA 7 ⟨some 62, .load 97 (.tmp 5), 97, "ones.go:107", #[], none⟩ ?vtdm7 ?rtdm7
    (try simp only [Act.put, tC, tD, tE])
    refine tA 9 ⟨some 64, .fieldAddr 121 (.tmp 7) 0, 0, "ones.go:107", #[], none⟩ ?vtdm8 ?rtdm8
    (try simp only [Act.put, tC, tD, tE])
    refine tA 10 ⟨some 65, .load 3 (.tmp 64), 3, "ones.go:107", #[⟨9, .data⟩], none⟩ ?vtdm9 ?rtdm9
    (try simp only [Act.put, tC, tD, tE])
    refine wpAnyH_ready (rs := [5]) (by kernel_rfl) (by simp) ?_
    refine AllReadyH.cons (o := ⟨some 60, .call ⟨.value (.func 195), #[.tmp 55, .tmp 59], #[106, 35]⟩, 4, "ones.go:107", #[⟨0, .data⟩, ⟨4, .data⟩], none⟩) rfl (fun Kq hKq => ?_) AllReadyH.nil
    go_simp
    (refine HH.out.mono ?_; rintro e' w10 ⟨rfl, hb10⟩; have H10 := Lib.hid ((H9.out.new (Below.refl _ _).drew).new hb10); clear hb10)
    refine hKq.out _ _ ?_ (fun hHeld => ?_)
    · exact ⟨cell_row (H10.out.blk 0 rfl) 2, cell_row (H10.out.blk 2 rfl) 0, cell_row (H10.out.blk 2 rfl) 1, cell_row (H10.out.blk 3 rfl) 0⟩
    clear hKq Kq
    (try simp only [Act.put, tC, tD, tE])
    refine wpAnyH_ready (rs := [8]) (by kernel_rfl) (by simp) ?_
    refine AllReadyH.cons (o := ⟨some 63, .call ⟨.value (.func 196), #[.tmp 61, .tmp 62], #[24, 97]⟩, 4, "ones.go:107", #[⟨6, .data⟩, ⟨7, .data⟩, ⟨5, .chain⟩], none⟩) rfl (fun Kq hKq => ?_) AllReadyH.nil
    go_simp
    (refine (HFIRE.out _ _ _ _ H10.out).mono ?_; rintro e' w11 ⟨rfl, X11, h11⟩; have H11 := Lib.hid h11; clear h11)
    refine hKq.out _ _ ?_ (fun hHeld => ?_)
    · exact ⟨cell_row (H11.out.blk 0 rfl) 2, cell_row (H11.out.blk 2 rfl) 0, cell_row (H11.out.blk 2 rfl) 1, cell_row (H11.out.blk 3 rfl) 0⟩
    clear hKq Kq
    (try simp only [Act.put, tC, tD, tE])
    refine tA 11 ⟨some 66, .build 69 #[(0, .const (.int .i64 1)), (2, .tmp 60), (3, .tmp 63), (4, .tmp 65)], 69, "ones.go:107", #[⟨5, .data⟩, ⟨8, .data⟩, ⟨10, .data⟩], none⟩ ?vtdm10 ?rtdm10
    (try simp only [Act.put, tC, tD, tE])
    refine wpAnyH_ready (rs := [12]) (by kernel_rfl) (by simp) ?_
    refine AllReadyH.cons (o := ⟨none, .store 69 (.tmp 4) (.tmp 66), 0, "ones.go:107", #[⟨11, .data⟩, ⟨8, .chain⟩, ⟨0, .phase⟩, ⟨1, .phase⟩, ⟨2, .phase⟩, ⟨3, .phase⟩, ⟨4, .phase⟩, ⟨5, .phase⟩, ⟨6, .phase⟩, ⟨7, .phase⟩, ⟨8, .phase⟩, ⟨9, .phase⟩, ⟨10, .phase⟩, ⟨11, .phase⟩], none⟩) rfl (fun Kq hKq => ?_) AllReadyH.nil
    (have q0 := cell_row (H11.out.blk 1 rfl) 0; have q1 := cell_row (H11.out.blk 1 rfl) 1; have q2 := cell_row (H11.out.blk 1 rfl) 2; have q3 := cell_row (H11.out.blk 1 rfl) 3; have q4 := cell_row (H11.out.blk 1 rfl) 4; have f0 := froz_row (H11.out.blk 1 rfl) 0; have f1 := froz_row (H11.out.blk 1 rfl) 1; have f2 := froz_row (H11.out.blk 1 rfl) 2; have f3 := froz_row (H11.out.blk 1 rfl) 3; have f4 := froz_row (H11.out.blk 1 rfl) 4; go_simp; clear q0 q1 q2 q3 q4 f0 f1 f2 f3 f4; have z0 := H11.out.put 1 rfl 0 (.int .i64 1) rfl; have z1 := z0.put 1 rfl 1 (.int .i64 0) rfl; have z2 := z1.put 1 rfl 2 (.bool lst) rfl; have z3 := z2.put 1 rfl 3 (.bool fr) rfl; have z4 := z3.put 1 rfl 4 (.int .i64 E0.t) rfl; have H12 := Lib.hid z4; clear z0 z1 z2 z3 z4; generalize (((((w11.setCell ⟨RB, 0, none⟩ (.int .i64 1)).setCell ⟨RB, 1, none⟩ (.int .i64 0)).setCell ⟨RB, 2, none⟩ (.bool lst)).setCell ⟨RB, 3, none⟩ (.bool fr)).setCell ⟨RB, 4, none⟩ (.int .i64 E0.t)) = w12 at *)
    refine hKq.out _ _ ?_ (fun hHeld => ?_)
    · exact ⟨cell_row (H12.out.blk 0 rfl) 2, cell_row (H12.out.blk 2 rfl) 0, cell_row (H12.out.blk 2 rfl) 1, cell_row (H12.out.blk 3 rfl) 0⟩
    clear hKq Kq
    (try simp only [Act.put, tC, tD, tE])
    refine wpAnyH_done (by kernel_rfl) ?_ _
    clear hHeld
    go_wp2_with fail
    have p0 : w12.cell? ⟨RB, 0, none⟩ = some (.int .i64 1) := cell_row (H12.out.blk 1 rfl) 0; have p1 : w12.cell? ⟨RB, 1, none⟩ = some (.int .i64 0) := cell_row (H12.out.blk 1 rfl) 1; have p2 : w12.cell? ⟨RB, 2, none⟩ = some (.bool lst) := cell_row (H12.out.blk 1 rfl) 2; have p3 : w12.cell? ⟨RB, 3, none⟩ = some (.bool fr) := cell_row (H12.out.blk 1 rfl) 3; have p4 : w12.cell? ⟨RB, 4, none⟩ = some (.int .i64 E0.t) := cell_row (H12.out.blk 1 rfl) 4
    exact bodyPost_ret (v := roV ⟨1, lst, fr, E0.t⟩) (by simp [results, Tryz.results169, go_sem, p0, p1, p2, p3, p4, roV]) rfl ⟨rfl, X11, (H12.out.only (l' := [(B, onO ln D told R (Pw Z.B) lv)]) (fun x hx => by rw [List.mem_singleton] at hx; rw [hx]; exact List.mem_cons_self) HND.out).dropP H.out.hj⟩
end
end Go.Proofs.YtieiiabbeglmfaaGreatDoor.S19
set_option linter.unusedVariables false
set_option linter.unusedSimpArgs false
namespace Go.Proofs.YtieiiabbeglmfaaGreatDoor.S19
open Go.Proofs.YtieiiabbeglmfaaGreatDoor Go.Proofs.YtieiiabbeglmfaaGreatDoor.S11 Go.Proofs.YtieiiabbeglmfaaGreatDoor.S12 Go.Proofs.YtieiiabbeglmfaaGreatDoor.S13 Go.Proofs.YtieiiabbeglmfaaGreatDoor.S14 Go.Proofs.YtieiiabbeglmfaaGreatDoor.S15 Go.Proofs.YtieiiabbeglmfaaGreatDoor.S16 Go.Proofs.YtieiiabbeglmfaaGreatDoor.S18
open Go.RowKit
structure Slp (l : Rows) (P : Pa) (B : Nat) : Prop where
  ok : PaOk P
  ln : P.ln = 8 ∨ P.ln = 0
  sh : ∀ r e u, Shape P B r e u l
theorem shape_any {P : Pa} {B : Nat} {r r' : List Part} {e u e' u' : Nat} {l : Rows} (hl : P.ln = 8 ∨ P.ln = 0) (h : Shape P B r e u l) : Shape P B r' e' u' l := by
  obtain ⟨ln, D, pb, pi, E, F, ky, o⟩ := P
  have hl' : ln = 8 ∨ ln = 0 := hl
  rcases hl' with rfl | rfl
  · exact h
  · exact h
abbrev rs (H : List Part) (L : List Rows) : List Part := noP :: noP :: (H ++ L.map rowsP)
def AllS (w0 w : World) (base WB : Nat) (M : Sd) (H : List Part) (L : List Rows) : Prop := ∃ q1 q2 X, Pg w0 w base WB M (q1 :: q2 :: (H ++ L.map rowsP)) X
section
variable {w0 w w' : World} {base WB : Nat} {M : Sd} {H : List Part} {L : List Rows} {B : Nat} {X : Wm}
theorem at_rs {q1 q2 : Part} {i : Nat} {l : Rows} (hi : L[i]? = some l) : (q1 :: q2 :: (H ++ L.map rowsP))[2 + H.length + i]? = some (rowsP l) := by
  rw [show 2 + H.length + i = (H.length + i) + 1 + 1 by omega, List.getElem?_cons_succ, List.getElem?_cons_succ, List.getElem?_append_right (by omega), show H.length + i - H.length = i by omega, List.getElem?_map, hi]; rfl
theorem set_rs {q1 q2 : Part} {i : Nat} {l : Rows} : (q1 :: q2 :: (H ++ L.map rowsP)).set (2 + H.length + i) (rowsP l) = q1 :: q2 :: (H ++ (L.set i l).map rowsP) := by
  rw [show 2 + H.length + i = (H.length + i) + 1 + 1 by omega, List.set_cons_succ, List.set_cons_succ, List.set_append_right _ _ (by omega), show H.length + i - H.length = i by omega, List.map_set]
theorem AllS.new (h : AllS w0 w base WB M H L) (b : Below w.heap.size w w') : AllS w0 w' base WB M H L := by
  obtain ⟨q1, q2, X, h⟩ := h
  exact ⟨q1, q2, X, h.new b⟩
theorem AllS.bl (h : AllS w0 w base WB M H L) : Below base w0 w := by
  obtain ⟨q1, q2, X, h⟩ := h
  exact h.bl
theorem AllS.pg (h : AllS w0 w base WB M H L) : ∃ r X, Pg w0 w base WB M r X := by
  obtain ⟨q1, q2, X, h⟩ := h
  exact ⟨_, X, h⟩
theorem AllS.first (h : Pg w0 w base WB M [] X) : AllS w0 w base WB M [] [] :=
  ⟨noP, noP, X, (Pg.push1 (Pg.push1 h noP (Below.refl _ _) trivial (fun k e => e.elim)) noP (Below.refl _ _) trivial (fun k e => e.elim))⟩
theorem set01 {q1 q2 a b : Part} {r : List Part} : ((a :: b :: r).set 0 q1).set 1 q2 = q1 :: q2 :: r := rfl
theorem AllS.park (h : AllS w0 w base WB M H L) {i : Nat} {l : Rows} {P : Pa} (hi : L[i]? = some l) (s : Slp l P B) : PaR w0 w base WB M (rs H L) (2 + H.length + i) 0 1 P B := by
  obtain ⟨q1, q2, X, h⟩ := h
  have hlt := (List.getElem?_eq_some_iff.1 hi).1
  refine ⟨s.ok, q1, q2, X, by omega, by omega, by omega, by simp, by simp, l, ⟨?_, by simp; omega⟩, s.sh _ _ _⟩
  rw [set01, set_eq (at_rs hi)]
  exact h
theorem AllS.rest {i : Nat} {P : Pa} (h : PaR w0 w base WB M (rs H L) (2 + H.length + i) 0 1 P B) (hl : P.ln = 8 ∨ P.ln = 0) : ∃ l, AllS w0 w base WB M H (L.set i l) ∧ Slp l P B := by
  obtain ⟨ok, q1, q2, X, h⟩ := h
  obtain ⟨l, hw, hs⟩ := h.at'
  refine ⟨l, ⟨q1, q2, X, ?_⟩, ok, hl, fun r e u => shape_any hl hs⟩
  have hp := hw.pg
  rw [set01, set_rs] at hp
  exact hp
theorem AllS.more (h : AllS w0 w base WB M H L) : AllS w0 w base WB M H (L ++ [[]]) := by
  obtain ⟨q1, q2, X, h⟩ := h
  refine ⟨q1, q2, X, ?_⟩
  have := Pg.push1 h (rowsP []) (Below.refl _ _) ⟨fun x hx => (by cases hx), (by simp)⟩ (fun k e => by simp [rowsP] at e)
  rw [List.map_append, ← List.append_assoc]
  exact this
theorem last_rs : (L ++ [([] : Rows)])[L.length]? = some [] := by rw [List.getElem?_append_right (Nat.le_refl _), Nat.sub_self]; rfl
theorem AllS.wq (h : AllS w0 w base WB M H L) : ∃ X, Wq w0 w base WB M (rs H (L ++ [[]])) (2 + H.length + L.length) [] X := by
  obtain ⟨q1, q2, X, h⟩ := h.more
  have h1 := h.turn (j := 0) rfl noP trivial (Turns.refl _ _) (fun k e => e.elim)
  have h2 := h1.turn (j := 1) rfl noP trivial (Turns.refl _ _) (fun k e => e.elim)
  refine ⟨X, ?_, by simp; omega⟩
  rw [set_eq (at_rs last_rs)]
  exact h2
theorem AllS.drop {l : Rows} (h : AllS w0 w base WB M H (L ++ [l])) : AllS w0 w base WB M H L := by
  obtain ⟨q1, q2, X, h⟩ := h
  refine ⟨q1, q2, X, Parts.left (l' := [rowsP l]) ?_, h.wB, h.xm, h.bl⟩
  have := h.ps
  rw [List.map_append, ← List.append_assoc] at this
  rw [List.append_assoc]
  exact this
theorem set_last {l : Rows} : (L ++ [([] : Rows)]).set L.length l = L ++ [l] := by rw [List.set_append_right _ _ (Nat.le_refl _), Nat.sub_self]; rfl
theorem AllS.newpark {v : Value} {D : Pd} (h : AllS w0 w base WB M H L) (hv : HkOf v D.hk) (hh : D.hk = none) (ht : D.t < 64) (hk : D.k < 4294967296) :
    Calls Tryz.prog 11 #[.int .i64 (D.t : Int), .int .u32 (D.k : Int), .int .u64 (D.z : Int), .agg #[.bool D.on, .int .u64 (D.at' : Int)], v] w fun e' w' => ∃ B, e' = .returned (Pw B) ∧ PaR w0 w' base WB M (rs H (L ++ [[]])) (2 + H.length + L.length) 0 1 (pa0 D) B := by
  obtain ⟨X, hw⟩ := h.wq
  exact new_r hw hv (by omega) (by omega) (by simp) (by simp) (by omega) ht hk (fun c hc => by rw [hh] at hc; cases hc)
theorem AllS.alloc (h : AllS w0 w base WB M H L) (ob : Obj) : AllS w0 (w.alloc ob) base WB M H (L ++ [[(w.heap.size, ob)]]) := by
  obtain ⟨q1, q2, X, h⟩ := h
  refine ⟨q1, q2, X, ?_⟩
  have := Pg.push1 h (rowsP [(w.heap.size, ob)]) (below1 w ob) ⟨fun x hx => by rw [List.mem_singleton] at hx; rw [hx]; exact heap_alloc_new w ob, by simp⟩ (fun k e => by simp [rowsP] at e; omega)
  rw [List.map_append, ← List.append_assoc]
  exact this
theorem AllS.rows (h : AllS w0 w base WB M H L) {i : Nat} {l : Rows} (hi : L[i]? = some l) : (rowsP l).ok w := by
  obtain ⟨q1, q2, X, hp⟩ := h
  exact hp.ps.ok _ _ (hp.part (at_rs hi))
theorem AllS.blk (h : AllS w0 w base WB M H L) {i B : Nat} {ob : Obj} (hi : L[i]? = some [(B, ob)]) : w.heap[B]? = some ob :=
  (h.rows hi).1 (B, ob) List.mem_cons_self
theorem AllS.addH (h : AllS w0 w base WB M H []) (p : Part) (b : Below w.heap.size w w') (hq : p.ok w') (hf : ∀ k, p.fp k → w.heap.size ≤ k) : AllS w0 w' base WB M (H ++ [p]) [] := by
  obtain ⟨q1, q2, X, h⟩ := h
  refine ⟨q1, q2, X, ?_⟩
  have := Pg.push1 h p b hq hf
  rw [List.map_nil, List.append_nil] at this ⊢
  exact this
theorem at_rsH {q1 q2 : Part} {a : Nat} {p : Part} (ha : H[a]? = some p) : (q1 :: q2 :: (H ++ L.map rowsP))[2 + a]? = some p := by
  rw [show 2 + a = a + 1 + 1 by omega, List.getElem?_cons_succ, List.getElem?_cons_succ, List.getElem?_append_left (List.getElem?_eq_some_iff.1 ha).1]; exact ha
theorem AllS.turnH (h : AllS w0 w base WB M H L) {a : Nat} {p : Part} (ha : H[a]? = some p) (c : Part) (hq : c.ok w') (t : Turns p.fp w w') (hf : ∀ k, c.fp k → p.fp k ∨ w.heap.size ≤ k) : AllS w0 w' base WB M (H.set a c) L := by
  obtain ⟨q1, q2, X, h⟩ := h
  have h1 := h.turn (at_rsH ha) c hq t hf
  have e : (q1 :: q2 :: (H ++ L.map rowsP)).set (2 + a) c = q1 :: q2 :: (H.set a c ++ L.map rowsP) := by
    rw [show 2 + a = a + 1 + 1 by omega, List.set_cons_succ, List.set_cons_succ, List.set_append_left _ _ (List.getElem?_eq_some_iff.1 ha).1]
  rw [e] at h1
  exact ⟨q1, q2, X, h1⟩
theorem AllS.partH (h : AllS w0 w base WB M H L) {a : Nat} {p : Part} (ha : H[a]? = some p) : p.ok w := by
  obtain ⟨q1, q2, X, hp⟩ := h
  exact hp.ps.ok _ _ (hp.part (at_rsH ha))
end
end Go.Proofs.YtieiiabbeglmfaaGreatDoor.S19
