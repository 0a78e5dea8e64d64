/- Texts of this seat, one behind the other. -/
import Derived.Test.YtpmafdggbeppcaaGreatDoorMLawVoid1825
import Derived.StillTailTactics
import Derived.Deep.RegionLaw
set_option linter.unusedVariables false
set_option linter.unusedSimpArgs false
set_option linter.unusedVariables false
set_option linter.unusedSimpArgs false
namespace Go.Proofs.YtpmafdggbeppcaaGreatDoor.S15
set_option maxRecDepth 100000
set_option maxHeartbeats 16000000
open Go.Proofs.YtpmafdggbeppcaaGreatDoor Go.Proofs.YtpmafdggbeppcaaGreatDoor.S11 Go.Proofs.YtpmafdggbeppcaaGreatDoor.S12 Go.Proofs.YtpmafdggbeppcaaGreatDoor.S13 Go.Proofs.YtpmafdggbeppcaaGreatDoor.S14
open Go.RowKit
section
variable {w0 w w' : World} {base WB : Nat} {M : Sd} {r : List Part} {j u U : Nat} {o : Bool} {t kw tw : Nat} {Z : Wb} {X : Wm}
theorem steps_lock1 {K : Lk} (h : Wy w0 w base WB M r j o t kw tw Z X) (hju : j ≠ u) (hu : r[u]? = some (lockP U K)) (huv : Z.uv = lockU U) (ok : LkOk M K) (hk1 : K.ln = 1) :
    Calls Tryz.prog 257 #[.agg #[], sP Z.B, Pw WB] w fun e w' => e = .returned (.bool (decide ((stepK M K).ln = 0))) ∧ ∃ X', Wy w0 w' base WB (stepM M K) (r.set u (lockP U (stepK M K))) j o t kw tw Z X' := by
  have hj := h.hj
  have h1 := h.new (below1 w (.cells #[] 284))
  have c8 := h1.c.2.2.2.2.2.2.2.2
  rw [huv] at c8
  have HST := Lib.hid (step_first (h1.lock hju hu) ok hk1)
  have hm1 := meth_step ⟨U, 0, none⟩
  have HJ := Lib.hid hj; have HJU := Lib.hid hju
  clear h h1 hu huv ok hk1 hj hju
  generalize decide ((stepK M K).ln = 0) = b at *
  go_enter Tryz.func257, Tryz.ntmps257
  go_upto_region 1 with (fail)
  generalize w.alloc (.cells #[] 284) = w1 at *
  go_wp2_with (go_at_call 292; refine HST.out.mono ?_; rintro e w2 ⟨rfl, hs⟩; have HS := Lib.hid hs; clear hs)
  go_ret
  obtain ⟨X', h'⟩ := HS.out
  exact ⟨rfl, X', wy_lock h' HJU.out HJ.out⟩
end
section
variable {w0 w w' : World} {base WB : Nat} {M : Sd} {r : List Part} {j u U : Nat} {o : Bool} {t kw tw : Nat} {Z : Wb} {X : Wm}
theorem wstep_e3y1 (h : Wy w0 w base WB M r j false t kw tw Z X) (hi : Z.i = 1) (hs : Z.st = false) {K : Lk} (hju : j ≠ u) (hq : r[u]? = some (lockP U K)) (huv : Z.uv = lockU U) (ok : LkOk M K) (hk1 : K.ln = 1) (hov : (stepK M K).ln = 0) :
    Calls Tryz.prog 253 #[Pw Z.B, Pw WB] w fun e w' => e = .returned (.tuple #[]) ∧ ∃ X', Wy w0 w' base WB (stepM M K) (r.set u (lockP U (stepK M K))) j false t kw tw { Z with i := 2 } X' := by
  have hd := h.new (Below.refl _ _).drew
  have hst := steps_lock1 hd hju hq huv ok hk1
  rw [decide_eq_true hov] at hst
  have c0 : w.cell? ⟨Z.B, 0, none⟩ = some (.slice (some ⟨Z.PB, 0, none⟩) 4 4) := h.c.1
  have c1 : w.cell? ⟨Z.B, 1, none⟩ = some (.int .i64 1) := by have := h.c.2.1; rw [hi] at this; exact this
  have p0 := h.pcell 1 takeV rfl
  have hm := m_tstep
  have HST := Lib.hid (hst)
  have HI := Lib.hid hi
  have HS := Lib.hid hs
  clear h hd hi hs hju hq huv ok hk1 hov hst
  go_enter Tryz.func253, Tryz.ntmps253
  refine wp_scope_one rfl ?_
  go_upto_region 0 with (fail)
  go_still_tail 16, (by kernel_rfl)
  change wpList _ _ _ _ _ w.drew
  go_upto_region 1 with (go_at_call 257; refine HST.out.mono ?_; rintro e w1 ⟨rfl, X1, h1⟩; have H1 := Lib.hid h1; clear h1)
  clear c0 c1 p0 hm HST
  have c1 : w1.cell? ⟨Z.B, 1, none⟩ = some (.int .i64 1) := by have := H1.out.c.2.1; rw [HI.out] at this; exact this
  have f1 := (H1.out.fz 1).1
  go_wp2_with fail
  go_step3
  go_wp2_with fail
  have h2 := H1.out.put 1 (.int .i64 2) { Z with i := 2 } rfl rfl rfl rfl rfl
  have H2 := Lib.hid h2
  clear h2 c1 f1
  generalize w1.setCell ⟨Z.B, 1, none⟩ (.int .i64 2) = w2 at *
  refine wp_loop_rounds 1 ?_
  rw [rounds_succ]
  refine wp_seq (wp_seq ?_)
  have c0 : w2.cell? ⟨Z.B, 0, none⟩ = some (.slice (some ⟨Z.PB, 0, none⟩) 4 4) := H2.out.c.1
  have c1 : w2.cell? ⟨Z.B, 1, none⟩ = some (.int .i64 2) := H2.out.c.2.1
  go_upto_region 2 with (fail)
  go_quiet (fail)
  go_upto_region 4 with (fail)
  have H3 := Lib.hid (H2.out.new (below_n w2 nq))
  clear c0 c1
  generalize w2.drewN nq = w3 at *
  have c0 : w3.cell? ⟨Z.B, 0, none⟩ = some (.slice (some ⟨Z.PB, 0, none⟩) 4 4) := H3.out.c.1
  have c1 : w3.cell? ⟨Z.B, 1, none⟩ = some (.int .i64 2) := H3.out.c.2.1
  have p0 := H3.out.pcell 2 (askV Z.TB) rfl
  have hm := m_abeg Z.TB
  have c7 : w3.drew.cell? ⟨Z.B, 7, none⟩ = some (.bool false) := by have := (H3.out.new (Below.refl _ _).drew).c.2.2.2.2.2.2.2.1; rw [HS.out] at this; exact this
  have htb := abegin_any (Q := Z.TB) c7
  rw [show (!false) = true from rfl] at htb
  have HTB := Lib.hid htb
  clear c7 htb
  go_still_tail 15, (by kernel_rfl)
  change wpList _ _ _ _ _ w3.drew
  go_wp2_with (go_at_call 274; refine HTB.out.mono ?_; rintro e w4 ⟨rfl, hb4⟩; have H4 := Lib.hid (H3.out.new ((Below.refl _ _).drew.trans hb4)); clear hb4)
  (try simp only [to1])
  refine bodyPost_ret (results_none rfl _ _ _) rfl ?_
  exact ⟨rfl, X1, H4.out⟩
end
def Lone (M : Sd) (E : En) : Prop := E.ow = false ∧ (E.ln = 2 ∨ (E.ln = 3 ∧ E.K.ln = 1 ∧ (stepK M E.K).ln = 0) ∨ (E.ln = 4 ∧ S2.look M.L 0 = E.tw))
section
variable {w0 w w' : World} {base WB : Nat} {M : Sd} {r : List Part} {j u U : Nat} {E : En} {Z : Wb} {X : Wm}
theorem way_step1 (h : Ew w0 w base WB M r j u E Z X) (ok : EnOk E) (ms : 0 ≤ M.sp ∧ M.sp ≤ 16) (hn : M.n ≤ 1000000000) (hp : M.pn ≤ 1000000000) (hal : Lone M E) :
    Calls Tryz.prog 253 #[Pw Z.B, Pw WB] w fun e w' => e = .returned (.tuple #[]) ∧ EStep w0 w' base WB M r j u E Z := by
  obtain ⟨o, ln, t, kw, tw, K, F⟩ := E
  have hju := h.ju; have hu := h.hu; have hi := h.i; have hs := h.st; have wy := h.wy
  have ht : t < 64 := ok.t; have hkw : kw < 18446744073709551616 := ok.kw; have htw : tw < 18446744073709551616 := ok.tw
  have hk := h.k
  obtain ⟨ho, hc⟩ := hal
  have ho' : o = false := ho
  subst ho'
  have hc' : ln = 2 ∨ (ln = 3 ∧ K.ln = 1 ∧ (stepK M K).ln = 0) ∨ (ln = 4 ∧ S2.look M.L 0 = tw) := hc
  rcases hc' with rfl | ⟨rfl, hk1, hov⟩ | ⟨rfl, hx⟩
  · refine (wstep_e2 wy hi hs hju hu ht hkw hn rfl).mono ?_
    rintro e w' ⟨rfl, UB, X', h'⟩
    exact ⟨rfl, EStep.mk' rfl ⟨h', hju, by rw [List.length_set]; exact hu, rfl, hs, fun _ => ⟨UB, List.getElem?_set_self hu, rfl⟩, fun e => absurd e (by show ¬ 3 = 6; omega), fun _ => ⟨rfl, rfl⟩⟩ ⟨rfl, rfl, rfl, rfl⟩⟩
  · obtain ⟨U, hq, huv⟩ := hk rfl
    refine (wstep_e3y1 wy hi hs hju hq huv (ok.lok ms hn hp) hk1 hov).mono ?_
    rintro e w' ⟨rfl, X', h'⟩
    have e1 : enE M ⟨false, 3, t, kw, tw, K, F⟩ = ⟨false, 4, t, kw, tw, stepK M K, F⟩ := by show (⟨false, if (stepK M K).ln = 0 then 4 else 3, t, kw, tw, stepK M K, F⟩ : En) = _; rw [if_pos hov]
    exact ⟨rfl, EStep.mk' e1 ⟨h', hju, by rw [List.length_set]; exact hu, rfl, hs, fun e => absurd e (by show ¬ 4 = 3; omega), fun e => absurd e (by show ¬ 4 = 6; omega), fun _ => h.pl (.inl (by show 3 ≤ 3; omega))⟩ ⟨rfl, rfl, rfl, rfl⟩⟩
  · refine (wstep_e4y wy hi hs hn rfl hx).mono ?_
    rintro e w' ⟨rfl, X', h'⟩
    have e1 : enE M ⟨false, 4, t, kw, tw, K, F⟩ = ⟨false, 0, t, kw, tw, K, F⟩ := if_pos hx
    exact ⟨rfl, EStep.mk0 e1 ⟨h', hju, hu, rfl, rfl, fun e => absurd e (by show ¬ 0 = 3; omega), fun e => absurd e (by show ¬ 0 = 6; omega), fun _ => h.pl (.inl (by show 3 ≤ 4; omega))⟩ ⟨rfl, rfl, rfl, rfl⟩⟩
theorem estep1 (h : Ew w0 w base WB M r j u E Z X) (ok : EnOk E) (ms : 0 ≤ M.sp ∧ M.sp ≤ 16) (hn : M.n ≤ 1000000000) (hp : M.pn ≤ 1000000000) (hal : Lone M E) :
    Calls Tryz.prog 252 #[Pw Z.B, Pw WB] w fun e w' => e = .returned (.bool (decide ((enE M E).ln = 0))) ∧ EStep w0 w' base WB M r j u E Z := by
  have h0 : ¬ E.ln = 0 := by have := hal.2; omega
  have hov := h.eover ok
  rw [decide_eq_false h0] at hov
  have hst := fun (W : World) (hb : Below w.heap.size w W) => way_step1 (h.new hb) ok ms hn hp hal
  have hov2 : ∀ W, EStep w0 W base WB M r j u E Z → Calls Tryz.prog 251 #[Pw Z.B] W fun e w' => e = .returned (.bool (decide ((enE M E).ln = 0))) ∧ EStep w0 w' base WB M r j u E Z := fun W ⟨q, Z', X', e1, e2, e3, e4, h'⟩ => by
    have := h'.eover (ok.step ms h.look (fun k => pg_le h.wy.pg k))
    rw [e1] at this
    refine this.mono ?_
    rintro e w' ⟨rfl, hb⟩
    exact ⟨rfl, q, Z', X', e1, e2, e3, e4, h'.new hb⟩
  have HOV := Lib.hid hov; have HST := Lib.hid hst; have HOV2 := Lib.hid hov2
  clear h ok ms hn hp h0 hal hov hst hov2
  generalize decide ((enE M E).ln = 0) = b at *
  go_enter Tryz.func252, Tryz.ntmps252
  go_upto_region 2 with (go_at_call 251; refine HOV.out.mono ?_; rintro e w2 ⟨rfl, hb2⟩; have HB2 := Lib.hid hb2; clear hb2)
  go_upto_region 3 with (go_at_call 253; refine (HST.out _ HB2.out).mono ?_; rintro e w3 ⟨rfl, hs⟩; have HS := Lib.hid hs; clear hs)
  go_wp2_with (go_at_call 251; refine (HOV2.out _ HS.out).mono ?_; rintro e w4 ⟨rfl, hs⟩; have HS4 := Lib.hid hs; clear hs)
  go_ret
  exact ⟨rfl, HS4.out⟩
end
end Go.Proofs.YtpmafdggbeppcaaGreatDoor.S15
namespace Go.Proofs.YtpmafdggbeppcaaGreatDoor.S18
set_option maxRecDepth 100000
set_option maxHeartbeats 16000000
open Go.Proofs.YtpmafdggbeppcaaGreatDoor Go.Proofs.YtpmafdggbeppcaaGreatDoor.S11 Go.Proofs.YtpmafdggbeppcaaGreatDoor.S12 Go.Proofs.YtpmafdggbeppcaaGreatDoor.S13 Go.Proofs.YtpmafdggbeppcaaGreatDoor.S14 Go.Proofs.YtpmafdggbeppcaaGreatDoor.S15 Go.Proofs.YtpmafdggbeppcaaGreatDoor.S16
open Go.RowKit
section
variable {w0 w w' : World} {base WB : Nat} {M : Sd} {r : List Part} {j e u B : Nat} {l l' : Rows} {X : Wm} {E : En} {Z : Wb}
theorem wq_estep1 (h : Wq w0 w base WB M r j l X) (s : EwS r e u E Z) (hje : j ≠ e) (hju : j ≠ u) (ok : EnOk E) (ms : 0 ≤ M.sp ∧ M.sp ≤ 16) (hn : M.n ≤ 1000000000) (hp : M.pn ≤ 1000000000) (hal : S15.Lone M E) :
    Calls Tryz.prog 252 #[Pw Z.B, Pw WB] w fun e' w' => e' = .returned (.bool (decide ((enE M E).ln = 0))) ∧ WayStep w0 w' base WB M r j e u l E Z := by
  refine (estep1 (wq_ew h s hje hju) ok ms hn hp hal).mono ?_
  rintro e' w' ⟨rfl, q, Z', X', e1, _, _, _, h'⟩
  obtain ⟨g1, g2⟩ := ew_wq h' h.hj (List.getElem?_eq_some_iff.1 s.re).1 s.hu hje hju
  exact ⟨rfl, q, Z', X', e1, g1, g2⟩
end
section
variable {w0 w w' : World} {base WB : Nat} {M : Sd} {r : List Part} {j e u B : Nat} {l l' : Rows} {X : Wm} {D : Pd} {pb pi : Int} {p b : Value} {o : Nat}
theorem fstep_1 {U : Nat} {Fq : Fr} (h : Wq w0 w base WB M r j l X) (hju : j ≠ u) (hu : r[u]? = some (freeP U Fq)) (ok : FrOk M Fq) (h1 : Fq.ln = 1) :
    Calls Tryz.prog 279 #[Pw U, Pw WB] w fun e' w' => e' = .returned (.bool (decide ((fstepK M Fq).ln = 0))) ∧ ∃ X', Wq w0 w' base WB (fstepM M Fq) (r.set u (freeP U (fstepK M Fq))) j l X' := by
  refine (step_f1 (h.free hju hu) ok h1).mono ?_
  rintro e' w' ⟨rfl, X', h'⟩
  exact ⟨rfl, X', wq_free h' hju h.hj⟩
end
section
variable {w0 w w' : World} {base WB : Nat} {M : Sd} {r : List Part} {j e u B : Nat} {X : Wm} {D : Pd} {pb pi ky o : Nat} {E : En} {F : Fr}
theorem pl_1n (h : PaW w0 w base WB M r j e u ⟨1, D, pb, pi, E, F, ky, o⟩ B X) (ok : PaOk ⟨1, D, pb, pi, E, F, ky, o⟩) (okE : PaOk (paE M ⟨1, D, pb, pi, E, F, ky, o⟩)) (ms : 0 ≤ M.sp ∧ M.sp ≤ 16) (hn : M.n ≤ 800000000) (hp : M.pn ≤ 800000000) (hal : S15.Lone M E) : Calls Tryz.prog 11 #[Pw B, Pw WB] w fun e' w' => e' = .returned (.bool (decide ((paE M ⟨1, D, pb, pi, E, F, ky, o⟩).ln = 0))) ∧ PaS w0 w' base WB M r j e u ⟨1, D, pb, pi, E, F, ky, o⟩ B := by
  obtain ⟨l, hw, Z, XB, VB, rfl, hs⟩ := h.at'
  have hst := wq_estep1 hw hs h.je h.ju ok.e ms (by omega) (by omega) hal
  have hE1 : paM M ⟨1, D, pb, pi, E, F, ky, o⟩ = enM M E := rfl
  by_cases h0 : (enE M E).ln = 0
  · rw [decide_eq_true h0] at hst
    have hkw : (enE M E).kw < 4294967296 := enE_kw ok.ek
    have how : (enE M E).ow = false := (enE_ow M E).1.trans (ok.e1 rfl)
    refine doneE_ENTER1 (U := Z.B) (c0 := VB) (c1 := XB) (Q1 := fun W => WayStep w0 W base WB M r j e u _ E Z) (Q := fun W => PaS w0 W base WB M r j e u ⟨1, D, pb, pi, E, F, ky, o⟩ B) (ov := decide ((paE M ⟨1, D, pb, pi, E, F, ky, o⟩).ln = 0)) (cell_row (hw.blk 0 rfl) 8) hst (fun W hW => ?_) (fun W hW => PaS.over okE hW)
    obtain ⟨q, Z', X', eB, hw', hs'⟩ := hW
    refine ⟨cell_row (hw'.blk 0 rfl) 9, ?_⟩
    have hv2 : [(B, pkO D pb pi (.iface 234 (Pw Z.B)) (fnV 96 #[] #[Pw VB, Pw XB]) 0), (XB, xO B), (VB, Obj.cells #[Pw Z.B] 234 (0, 0))][2]? = some (VB, Obj.cells #[Pw Z'.B] 234 (0, 0)) := by rw [eB]; rfl
    have hlen : ((r.set u q).set e (way (enE M E) Z')).length = r.length := by rw [List.length_set, List.length_set]
    refine enter1_ (kv := 2) (kx := 1) hw' hs' h.je h.ju h0 how hkw rfl hv2 rfl (Q := fun W => PaS w0 W base WB M r j e u ⟨1, D, pb, pi, E, F, ky, o⟩ B) (fun W2 hW2 => ?_)
    obtain ⟨t, k, z, on, at_, hk⟩ := D
    cases hk with
    | none =>
      have hE2 : paE M ⟨1, ⟨t, k, z, on, at_, none⟩, pb, pi, E, F, ky, o⟩ = ⟨4, ⟨t, k, z, on, at_, none⟩, bitsN (enE M E).tw, bktN (enE M E).kw (enE M E).tw, enE M E, F, ky, o⟩ := if_pos h0
      refine (validate_p hW2 rfl).mono ?_
      rintro e' w2 ⟨rfl, XB2, NB, h2⟩
      exact ⟨rfl, PaS.both hE1 hE2 (h.mkW hlen h2 ⟨XB2, NB, rfl⟩)⟩
    | some c =>
      obtain ⟨ca, cl, cn, cc⟩ := c
      have hE2 : paE M ⟨1, ⟨t, k, z, on, at_, some ⟨ca, cl, cn, cc⟩⟩, pb, pi, E, F, ky, o⟩ = ⟨2, ⟨t, k, z, on, at_, some ⟨ca, cl, cn, cc⟩⟩, bitsN (enE M E).tw, bktN (enE M E).kw (enE M E).tw, enE M E, F, ky, o⟩ := if_pos h0
      refine (validate_c hW2 rfl).mono ?_
      rintro e' w2 ⟨rfl, XB2, CB, LB, LX, VB2, h2⟩
      exact ⟨rfl, PaS.both hE1 hE2 (h.mkW hlen h2 ⟨⟨ca, cl, cn, cc⟩, XB2, CB, LB, LX, VB2, rfl, rfl⟩)⟩
  · rw [decide_eq_false h0] at hst
    have hE2 : paE M ⟨1, D, pb, pi, E, F, ky, o⟩ = ⟨1, D, pb, pi, enE M E, F, ky, o⟩ := if_neg h0
    have hd : decide ((paE M ⟨1, D, pb, pi, E, F, ky, o⟩).ln = 0) = false := by rw [hE2]; rfl
    have hne : (paE M ⟨1, D, pb, pi, E, F, ky, o⟩).ln ≠ 0 := of_decide_eq_false hd
    rw [hd]
    refine moreE (U := Z.B) (Q := fun W => PaS w0 W base WB M r j e u ⟨1, D, pb, pi, E, F, ky, o⟩ B) (cell_row (hw.blk 0 rfl) 8) (hst.mono ?_) (fun W hW => PaS.has okE hne hW)
    rintro e' w2 ⟨rfl, q, Z', X', eB, hw', hs'⟩
    have hlen : ((r.set u q).set e (way (enE M E) Z')).length = r.length := by rw [List.length_set, List.length_set]
    exact ⟨rfl, PaS.both hE1 hE2 (h.mkW hlen hw' ⟨Z', XB, VB, by rw [eB], hs'⟩)⟩
theorem pl_6n (h : PaW w0 w base WB M r j e u ⟨6, D, pb, pi, E, F, ky, o⟩ B X) (ok : PaOk ⟨6, D, pb, pi, E, F, ky, o⟩) (okE : PaOk (paE M ⟨6, D, pb, pi, E, F, ky, o⟩)) (ms : 0 ≤ M.sp ∧ M.sp ≤ 16) (hn : M.n ≤ 800000000) (hp : M.pn ≤ 800000000) (hf1 : F.ln = 1) : Calls Tryz.prog 11 #[Pw B, Pw WB] w fun e' w' => e' = .returned (.bool (decide ((paE M ⟨6, D, pb, pi, E, F, ky, o⟩).ln = 0))) ∧ PaS w0 w' base WB M r j e u ⟨6, D, pb, pi, E, F, ky, o⟩ B := by
  obtain ⟨l, hw, U, rfl, hr⟩ := h.at'
  have hst := fstep_1 hw h.ju hr (ok.f.ok (by omega) (by omega)) hf1
  have hE1 : paM M ⟨6, D, pb, pi, E, F, ky, o⟩ = fstepM M F := rfl
  have hlen : (r.set u (freeP U (fstepK M F))).length = r.length := List.length_set
  by_cases h0 : (fstepK M F).ln = 0
  · rw [decide_eq_true h0] at hst
    have hE2 : paE M ⟨6, D, pb, pi, E, F, ky, o⟩ = ⟨8, D, pb, pi, E, F, ky, o⟩ := if_pos h0
    refine doneF_BEFORE (U := U) (Q1 := fun W => ∃ X', Wq w0 W base WB (fstepM M F) (r.set u (freeP U (fstepK M F))) j _ X') (Q := fun W => PaS w0 W base WB M r j e u ⟨6, D, pb, pi, E, F, ky, o⟩ B) (ov := decide ((paE M ⟨6, D, pb, pi, E, F, ky, o⟩).ln = 0)) (cell_row (hw.blk 0 rfl) 8) hst (fun W hW => ?_) (fun W hW => PaS.over okE hW)
    obtain ⟨X', hw'⟩ := hW
    refine ⟨cell_row (hw'.blk 0 rfl) 9, (before_ hw' rfl ok.t).mono ?_⟩
    rintro e' w2 ⟨rfl, SB, XB, VB, h2⟩
    exact ⟨rfl, PaS.atu hE1 hE2 (h.mkW hlen h2 ⟨SB, XB, VB, rfl⟩)⟩
  · rw [decide_eq_false h0] at hst
    have hE2 : paE M ⟨6, D, pb, pi, E, F, ky, o⟩ = ⟨6, D, pb, pi, E, fstepK M F, ky, o⟩ := if_neg h0
    have hd : decide ((paE M ⟨6, D, pb, pi, E, F, ky, o⟩).ln = 0) = false := by rw [hE2]; rfl
    have hne : (paE M ⟨6, D, pb, pi, E, F, ky, o⟩).ln ≠ 0 := of_decide_eq_false hd
    rw [hd]
    refine moreF (U := U) (Q := fun W => PaS w0 W base WB M r j e u ⟨6, D, pb, pi, E, F, ky, o⟩ B) (cell_row (hw.blk 0 rfl) 8) (hst.mono ?_) (fun W hW => PaS.has okE hne hW)
    rintro e' w2 ⟨rfl, X', hw'⟩
    exact ⟨rfl, PaS.atu hE1 hE2 (h.mkW hlen hw' ⟨U, rfl, List.getElem?_set_self h.hu⟩)⟩
end
end Go.Proofs.YtpmafdggbeppcaaGreatDoor.S18
set_option linter.unusedVariables false
set_option linter.unusedSimpArgs false
namespace Go.Proofs.YtpmafdggbeppcaaGreatDoor.S18
set_option maxRecDepth 100000
set_option maxHeartbeats 16000000
open Go.Proofs.YtpmafdggbeppcaaGreatDoor Go.Proofs.YtpmafdggbeppcaaGreatDoor.S11 Go.Proofs.YtpmafdggbeppcaaGreatDoor.S12 Go.Proofs.YtpmafdggbeppcaaGreatDoor.S13 Go.Proofs.YtpmafdggbeppcaaGreatDoor.S14 Go.Proofs.YtpmafdggbeppcaaGreatDoor.S15 Go.Proofs.YtpmafdggbeppcaaGreatDoor.S16
open Go.RowKit
theorem eqH (T : TypeId) (v : Value) (w : World) : (binOp .eql 43 (.iface T v) .nilIface).run Tryz.prog w = .ok (.bool false) w := by kernel_rfl
theorem eqH0 (w : World) : (binOp .eql 43 .nilIface .nilIface).run Tryz.prog w = .ok (.bool true) w := by kernel_rfl
theorem as1 (v : Value) (w : World) : (Instr.typeAssert (.iface 59 v) 43 232 true).run Tryz.prog w = .ok (.tuple #[.pointer none, .bool false]) w := by kernel_rfl
theorem as2 (v : Value) (w : World) : (Instr.typeAssert (.iface 59 v) 43 233 true).run Tryz.prog w = .ok (.tuple #[.pointer none, .bool false]) w := by kernel_rfl
theorem as3 (v : Value) (w : World) : (Instr.typeAssert (.iface 108 v) 43 232 true).run Tryz.prog w = .ok (.tuple #[.pointer none, .bool false]) w := by kernel_rfl
theorem as4 (v : Value) (w : World) : (Instr.typeAssert (.iface 108 v) 43 233 true).run Tryz.prog w = .ok (.tuple #[.pointer none, .bool false]) w := by kernel_rfl
theorem asY (v : Value) (w : World) : (Instr.typeAssert (.iface 138 v) 47 138 true).run Tryz.prog w = .ok (.tuple #[v, .bool true]) w := by kernel_rfl
theorem asN_PENTER (v : Value) (w : World) : (Instr.typeAssert (.iface 234 v) 47 138 true).run Tryz.prog w = .ok (.tuple #[.pointer none, .bool false]) w := by kernel_rfl
theorem asN_PLOOK (v : Value) (w : World) : (Instr.typeAssert (.iface 383 v) 47 138 true).run Tryz.prog w = .ok (.tuple #[.pointer none, .bool false]) w := by kernel_rfl
theorem asN_PONE (v : Value) (w : World) : (Instr.typeAssert (.iface 307 v) 47 138 true).run Tryz.prog w = .ok (.tuple #[.pointer none, .bool false]) w := by kernel_rfl
theorem asN_PFREE (v : Value) (w : World) : (Instr.typeAssert (.iface 313 v) 47 138 true).run Tryz.prog w = .ok (.tuple #[.pointer none, .bool false]) w := by kernel_rfl
theorem asN_POWN (v : Value) (w : World) : (Instr.typeAssert (.iface 352 v) 47 138 true).run Tryz.prog w = .ok (.tuple #[.pointer none, .bool false]) w := by kernel_rfl
def voidC : Array Value := #[.int .i64 0, .int .u32 0, .int .u64 0, .bool false, .int .u64 0, .nilIface, .int .i64 0, .int .i64 0, .nilIface, .nilFunc, .int .u8 0]
def HkOf (v : Value) (hk : Option Ck) : Prop := v = hkV hk ∨ (v = .nilIface ∧ hk = none)
theorem there_any {v : Value} {hk : Option Ck} (h : HkOf v hk) (w : World) : Calls Tryz.prog 47 #[v] w fun e w' => e = .returned (hkV hk) ∧ w = w' := by
  rcases h with rfl | ⟨rfl, rfl⟩
  · cases hk with
    | none =>
      show Calls Tryz.prog 47 #[.iface 59 (.agg #[])] w fun e w' => e = .returned (.iface 59 (.agg #[])) ∧ w = w'
      have e1 := eqH 59 (.agg #[])
      have e2 := as1 (.agg #[])
      have e3 := as2 (.agg #[])
      go_enter Tryz.func47, Tryz.ntmps47
      go_wp2_with fail
      go_ret
      exact ⟨rfl, rfl⟩
    | some c =>
      show Calls Tryz.prog 47 #[.iface 108 (.agg c.cs)] w fun e w' => e = .returned (.iface 108 (.agg c.cs)) ∧ w = w'
      generalize Value.agg c.cs = v
      have e1 := eqH 108 v
      have e2 := as3 v
      have e3 := as4 v
      go_enter Tryz.func47, Tryz.ntmps47
      go_wp2_with fail
      go_ret
      exact ⟨rfl, rfl⟩
  · show Calls Tryz.prog 47 #[.nilIface] w fun e w' => e = .returned (.iface 59 (.agg #[])) ∧ w = w'
    have e1 := eqH0
    go_enter Tryz.func47, Tryz.ntmps47
    go_wp2_with fail
    go_ret
    exact ⟨rfl, rfl⟩
section
variable {w0 w w' : World} {base WB : Nat} {M : Sd} {r : List Part} {j e u B : Nat} {l l' : Rows} {X : Wm} {D : Pd} {pb pi ky o : Nat} {E : En} {F : Fr}
theorem new_void {t : Int} (ht : ¬ (0 ≤ t ∧ t < 64)) (k z at_ : Int) (on : Bool) (v : Value) (w : World) : Calls Tryz.prog 8 #[.int .i64 t, .int .u32 k, .int .u64 z, .agg #[.bool on, .int .u64 at_], v] w fun e w' => ∃ B, e = .returned (Pw B) ∧ w.heap.size ≤ B ∧ Below w.heap.size w w' ∧ w'.heap[B]? = some (.cells voidC 50 (0, 0)) := by
  by_cases h1 : t < 0
  · have e1 : decide (t < 0) = true := decide_eq_true h1
    go_enter Tryz.func8, Tryz.ntmps8
    go_wp2_with fail
    go_ret
    exact ⟨_, rfl, by omega, ((Below.refl _ w).alloc (Nat.le_refl _) _).alloc (by simp) _, S15.alloc_at (ob := .cells voidC 50) (by simp [S15.alloc_size])⟩
  · have e1 : decide (t < 0) = false := decide_eq_false h1
    have e2 : decide (64 ≤ t) = true := decide_eq_true (by omega)
    go_enter Tryz.func8, Tryz.ntmps8
    go_wp2_with fail
    go_ret
    exact ⟨_, rfl, by omega, ((Below.refl _ w).alloc (Nat.le_refl _) _).alloc (by simp) _, S15.alloc_at (ob := .cells voidC 50) (by simp [S15.alloc_size])⟩
theorem new_park {v : Value} (h : Wq w0 w base WB M r j [] X) (hv : HkOf v D.hk) (hje : j ≠ e) (hju : j ≠ u) (he : e < r.length) (hu : u < r.length) (heu : e ≠ u) (ht : D.t < 64) (hk : D.k < 4294967296) :
    Calls Tryz.prog 8 #[.int .i64 (D.t : Int), .int .u32 (D.k : Int), .int .u64 (D.z : Int), .agg #[.bool D.on, .int .u64 (D.at' : Int)], v] w fun e' w' => ∃ B, e' = .returned (Pw B) ∧ ∃ q, PaW w0 w' base WB M (r.set e q) j e u (pa0 D) B X := by
  obtain ⟨t, k, z, on, at_, hh⟩ := D
  have e1 : decide ((t : Int) < 0) = false := decide_eq_false (by omega)
  have ht' : t < 64 := ht
  have e2 : decide (64 ≤ (t : Int)) = false := decide_eq_false (by omega)
  have HT := Lib.hid (fun W => there_any hv W)
  have HEN := Lib.hid (fun (W : World) (B : Nat) (p : Wq w0 W base WB M r j [(B, pkO ⟨t, k, z, on, at_, hh⟩ ((0 : Nat) : Int) ((0 : Nat) : Int) .nilIface .nilFunc 0)] X) => enter_ p rfl hje he hu heu ht hk)
  have H := Lib.hid h
  have HJ := Lib.hid (And.intro hje (And.intro hju (And.intro he (And.intro hu heu))))
  have b1 : (w.alloc (.cells #[.bool on, .int .u64 (at_ : Int)] 41)).cell? ⟨w.heap.size, 0, none⟩ = some (.bool on) := cell_row (heap_alloc_new w _) 0
  have b2 : (w.alloc (.cells #[.bool on, .int .u64 (at_ : Int)] 41)).cell? ⟨w.heap.size, 1, none⟩ = some (.int .u64 (at_ : Int)) := cell_row (heap_alloc_new w _) 1
  have hb := below1 w (.cells #[.bool on, .int .u64 (at_ : Int)] 41)
  obtain ⟨UB, hU⟩ : ∃ UB, UB = w.heap.size := ⟨_, rfl⟩
  rw [← hU] at b1 b2
  have HU := Lib.hid hU
  obtain ⟨w1, hw1⟩ : ∃ w1, w1 = w.alloc (.cells #[.bool on, .int .u64 (at_ : Int)] 41) := ⟨_, rfl⟩
  rw [← hw1] at b1 b2 hb
  have HW := Lib.hid hw1
  have h1 := h.new hb
  have H1 := Lib.hid h1
  clear h hv hje hju he hu heu ht hk hU hw1 hb h1 ht'
  obtain ⟨T1, x1, hvh⟩ : ∃ T1 x1, hkV hh = .iface T1 x1 := by cases hh <;> exact ⟨_, _, rfl⟩
  simp only [hvh] at HT
  have HVH := Lib.hid hvh
  clear hvh
  go_enter Tryz.func8, Tryz.ntmps8
  go_upto_region 1 with fail
  rw [← HW.out, ← HU.out]
  go_upto_region 3 with fail
  go_region_law (go_simp; go_at_call 47; refine (HT.out _).mono ?_; rintro e' w2 ⟨rfl, rfl⟩)
  all_goals
    have h2 := H1.out.push (pkO ⟨t, k, z, on, at_, hh⟩ ((0 : Nat) : Int) ((0 : Nat) : Int) .nilIface .nilFunc 0)
    have hv2 := HVH.out
    rw [List.nil_append] at h2
    have e9 : pkO ⟨t, k, z, on, at_, hh⟩ ((0 : Nat) : Int) ((0 : Nat) : Int) .nilIface .nilFunc 0 = .cells #[.int .i64 (t : Int), .int .u32 (k : Int), .int .u64 (z : Int), .bool on, .int .u64 (at_ : Int), .iface T1 x1, .int .i64 0, .int .i64 0, .nilIface, .nilFunc, .int .u8 0] 50 := by
      show Obj.cells #[.int .i64 (t : Int), .int .u32 (k : Int), .int .u64 (z : Int), .bool on, .int .u64 (at_ : Int), hkV hh, .int .i64 0, .int .i64 0, .nilIface, .nilFunc, .int .u8 0] 50 = _
      rw [hv2]
    have H2 := Lib.hid h2
    have E9 := Lib.hid e9
    clear h2 hv2 e9
    rw [← E9.out]
    have HE := Lib.hid (HEN.out _ _ (H2.out.new (Below.refl _ _).drew))
    generalize (w1.alloc (pkO ⟨t, k, z, on, at_, hh⟩ ((0 : Nat) : Int) ((0 : Nat) : Int) .nilIface .nilFunc 0)).drew = w3 at *
    generalize w1.heap.size = B at *
    go_wp2_with (go_at_call 48; refine HE.out.mono ?_; rintro e' w4 ⟨rfl, h4⟩)
    go_ret
    obtain ⟨Z, XB, VB, h5, h6⟩ := h4
    exact ⟨B, rfl, _, HJ.out.1, HJ.out.2.1, HJ.out.2.2.2.2, by rw [List.length_set]; exact HJ.out.2.2.1, by rw [List.length_set]; exact HJ.out.2.2.2.1, _, h5, Z, XB, VB, rfl, h6⟩
theorem step_void {v : Value} (h : w.heap[B]? = some (.cells voidC 50 (0, 0))) : Calls Tryz.prog 11 #[Pw B, v] w fun e w' => e = .returned (.bool true) ∧ w = w' := by
  have HOV := Lib.hid (over_yes (cell_row (cs := voidC) h 8))
  clear h
  go_enter Tryz.func11, Tryz.ntmps11
  go_wp2_with (go_at_call 10; refine HOV.out.mono ?_; rintro e w1 ⟨rfl, rfl⟩)
  go_ret
  exact ⟨rfl, rfl⟩
theorem step_nil {v : Value} (w : World) : Calls Tryz.prog 11 #[.pointer none, v] w fun e w' => e = .returned (.bool true) ∧ w = w' := by
  have HOV := Lib.hid (over_nil w)
  go_enter Tryz.func11, Tryz.ntmps11
  go_wp2_with (go_at_call 10; refine HOV.out.mono ?_; rintro e w1 ⟨rfl, rfl⟩)
  go_ret
  exact ⟨rfl, rfl⟩
theorem step_now (h : HasPart w B) : Calls Tryz.prog 11 #[Pw B, .pointer none] w fun e w' => e = .returned (.bool false) ∧ w = w' := by
  have HOV := Lib.hid (over_no h)
  clear h
  go_enter Tryz.func11, Tryz.ntmps11
  go_wp2_with (go_at_call 10; refine HOV.out.mono ?_; rintro e w1 ⟨rfl, rfl⟩)
  go_ret
  exact ⟨rfl, rfl⟩
theorem parked_over {x : Value} (hov : Calls Tryz.prog 10 #[x] w fun e w' => e = .returned (.bool true) ∧ w = w') : Calls Tryz.prog 12 #[x] w fun e w' => e = .returned (.bool false) ∧ w = w' := by
  have HOV := Lib.hid hov
  clear hov
  go_enter Tryz.func12, Tryz.ntmps12
  go_wp2_with (go_at_call 10; refine HOV.out.mono ?_; rintro e w1 ⟨rfl, rfl⟩)
  go_ret
  exact ⟨rfl, rfl⟩
theorem parked_by {T U : Nat} {b : Bool} {q : Value} (c8 : w.cell? ⟨B, 8, none⟩ = some (.iface T (Pw U))) (hT : ∀ W, (Instr.typeAssert (.iface T (Pw U)) 47 138 true).run Tryz.prog W = .ok (.tuple #[q, .bool b]) W) : Calls Tryz.prog 12 #[Pw B] w fun e w' => e = .returned (.bool b) ∧ w = w' := by
  have HOV := Lib.hid (over_no ⟨_, _, c8⟩)
  go_enter Tryz.func12, Tryz.ntmps12
  go_wp2_with (go_at_call 10; refine HOV.out.mono ?_; rintro e w1 ⟨rfl, rfl⟩)
  go_ret
  exact ⟨rfl, rfl⟩
theorem PaW.parked {P : Pa} (h : PaW w0 w base WB M r j e u P B X) (h13 : P.ln ≤ 13) (h7 : P.ln ≠ 7) : Calls Tryz.prog 12 #[Pw B] w fun e w' => e = .returned (.bool (decide (P.ln = 8))) ∧ w = w' := by
  obtain ⟨l, hw, hs⟩ := h.at'
  have hov := h.over h13 h7
  obtain ⟨ln, D, pb, pi, E, F, ky, o⟩ := P
  have hln : ln ≤ 13 := h13
  have hl7 : ln ≠ 7 := h7
  rcases (show ln = 0 ∨ ln = 1 ∨ ln = 2 ∨ ln = 3 ∨ ln = 4 ∨ ln = 5 ∨ ln = 6 ∨ ln = 8 ∨ ln = 9 ∨ ln = 10 ∨ ln = 11 ∨ ln = 12 ∨ ln = 13 by omega) with rfl | rfl | rfl | rfl | rfl | rfl | rfl | rfl | rfl | rfl | rfl | rfl | rfl
  · exact parked_over hov
  · obtain ⟨Z, XB, VB, rfl, _⟩ := hs; exact parked_by (cell_row (hw.blk 0 rfl) 8) (asN_PENTER _)
  · obtain ⟨c, XB, CB, LB, LX, VB, _, rfl⟩ := hs; exact parked_by (cell_row (hw.blk 0 rfl) 8) (asN_PLOOK _)
  · obtain ⟨U, XB, OB, rfl, _⟩ := hs; exact parked_by (cell_row (hw.blk 0 rfl) 8) (asN_PFREE _)
  · obtain ⟨XB, NB, rfl⟩ := hs; exact parked_by (cell_row (hw.blk 0 rfl) 8) (asN_PONE _)
  · obtain ⟨XB, NB, rfl⟩ := hs; exact parked_by (cell_row (hw.blk 0 rfl) 8) (asN_PONE _)
  · obtain ⟨U, rfl, _⟩ := hs; exact parked_by (cell_row (hw.blk 0 rfl) 8) (asN_PFREE _)
  · obtain ⟨SB, XB, VB, rfl⟩ := hs; exact parked_by (cell_row (hw.blk 0 rfl) 8) (asY _)
  · obtain ⟨Z, XB, VB, rfl, _⟩ := hs; exact parked_by (cell_row (hw.blk 0 rfl) 8) (asN_POWN _)
  · obtain ⟨XB, KB, LB, QB, NB, rfl⟩ := hs; exact parked_by (cell_row (hw.blk 0 rfl) 8) (asN_PONE _)
  · obtain ⟨U, XB, OB, rfl, _⟩ := hs; exact parked_by (cell_row (hw.blk 0 rfl) 8) (asN_PFREE _)
  · obtain ⟨c, XB, CB, NB, _, rfl⟩ := hs; exact parked_by (cell_row (hw.blk 0 rfl) 8) (asN_PONE _)
  · obtain ⟨U, XB, OB, rfl, _⟩ := hs; exact parked_by (cell_row (hw.blk 0 rfl) 8) (asN_PFREE _)
theorem got_nil (v : Value) (w : World) : Calls Tryz.prog 9 #[.pointer none, v] w fun e w' => e = .returned (.tuple #[.int .u8 0, .int .u64 0]) ∧ w = w' := by
  go_enter Tryz.func9, Tryz.ntmps9
  go_wp2_with fail
  go_ret2
  exact ⟨rfl, rfl⟩
theorem got_by {n : Nat} (c10 : w.cell? ⟨B, 10, none⟩ = some (.int .u8 (n : Int))) (hn : n ≠ 2) (v : Value) : Calls Tryz.prog 9 #[Pw B, v] w fun e w' => e = .returned (.tuple #[.int .u8 (n : Int), .int .u64 0]) ∧ w = w' := by
  have e1 : decide ((n : Int) = 2) = false := decide_eq_false (by omega)
  have e2 : ((n : Int) == 2) = false := e1
  clear hn
  go_enter Tryz.func9, Tryz.ntmps9
  go_wp2_with fail
  go_ret2
  exact ⟨rfl, rfl⟩
theorem pa_step1 {P : Pa} (h : PaW w0 w base WB M r j e u P B X) (ok : PaOk P) (okE : PaOk (paE M P)) (ms : 0 ≤ M.sp ∧ M.sp ≤ 16) (hn : M.n ≤ 800000000) (hp : M.pn ≤ 800000000) (hl : (P.ln = 1 ∧ S15.Lone M P.E) ∨ P.ln = 4 ∨ P.ln = 5 ∨ (P.ln = 6 ∧ P.F.ln = 1)) (ap : P.ln = 5 ∨ P.ln = 10 → AtPl w0 base M P.pb P.pi) :
    Calls Tryz.prog 11 #[Pw B, Pw WB] w fun e' w' => e' = .returned (.bool (decide ((paE M P).ln = 0))) ∧ PaS w0 w' base WB M r j e u P B := by
  obtain ⟨ln, D, pb, pi, E, F, ky, o⟩ := P
  have hl' : (ln = 1 ∧ S15.Lone M E) ∨ ln = 4 ∨ ln = 5 ∨ (ln = 6 ∧ F.ln = 1) := hl
  rcases hl' with ⟨rfl, ha⟩ | rfl | rfl | ⟨rfl, hf⟩
  · exact pl_1n h ok okE ms hn hp ha
  · exact pl_4 h ok okE ms hn hp
  · exact pl_5 h ok okE ms hn hp (ap (.inl rfl))
  · exact pl_6n h ok okE ms hn hp hf
end
end Go.Proofs.YtpmafdggbeppcaaGreatDoor.S18
