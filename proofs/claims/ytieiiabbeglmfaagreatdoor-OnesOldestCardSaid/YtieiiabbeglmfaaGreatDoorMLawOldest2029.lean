/- Texts of this seat, one behind the other. -/
import Derived.Test.YtieiiabbeglmfaaGreatDoorMLawOldest201
import Derived.Test.YtieiiabbeglmfaaGreatDoorMLawOldest2027
set_option linter.unusedVariables false
set_option linter.unusedSimpArgs false
set_option linter.unusedVariables false
set_option linter.unusedSimpArgs false
set_option linter.unusedVariables false
set_option linter.unusedSimpArgs false
namespace Go.Proofs.YtieiiabbeglmfaaGreatDoor.S15
set_option maxRecDepth 100000
set_option maxHeartbeats 16000000
open Go.Proofs.YtieiiabbeglmfaaGreatDoor Go.Proofs.YtieiiabbeglmfaaGreatDoor.S11 Go.Proofs.YtieiiabbeglmfaaGreatDoor.S12 Go.Proofs.YtieiiabbeglmfaaGreatDoor.S13 Go.Proofs.YtieiiabbeglmfaaGreatDoor.S14
open Go.RowKit
section
variable {w0 w w' : World} {base WB : Nat} {M : Sd} {r : List Part} {j u U : Nat} {o : Bool} {t kw tw : Nat} {Z : Wb} {X : Wm}
theorem wstep_e3n (h : Wy w0 w base WB M r j false t kw tw Z X) (hi : Z.i = 1) (hs : Z.st = false) {K : Lk} (hju : j ≠ u) (hq : r[u]? = some (lockP U K)) (huv : Z.uv = lockU U) (ok : LkOk M K) (h6 : K.ln ≤ 6) (hov : (stepK M K).ln ≠ 0) :
    Calls Tryz.prog 177 #[Pw Z.B, Pw WB] w fun e w' => e = .returned (.tuple #[]) ∧ ∃ X', Wy w0 w' base WB (stepM M K) (r.set u (lockP U (stepK M K))) j false t kw tw Z X' := by
  have hd := h.new (Below.refl _ _).drew
  have hst := steps_lock hd hju hq huv ok h6
  rw [decide_eq_false hov] at hst
  have c0 : w.cell? ⟨Z.B, 0, none⟩ = some (.slice (some ⟨Z.PB, 0, none⟩) 4 4) := h.c.1
  have c1 : w.cell? ⟨Z.B, 1, none⟩ = some (.int .i64 1) := by have := h.c.2.1; rw [hi] at this; exact this
  have p0 := h.pcell 1 takeV rfl
  have hm := m_tstep
  have HST := Lib.hid (hst)
  have HI := Lib.hid hi
  have HS := Lib.hid hs
  clear h hd hi hs hju hq huv ok h6 hov hst
  go_enter Tryz.func177, Tryz.ntmps177
  refine wp_scope_one rfl ?_
  go_upto_region 0 with (fail)
  go_still_tail 16, (by kernel_rfl)
  change wpList _ _ _ _ _ w.drew
  go_wp2_with (go_at_call 316; refine HST.out.mono ?_; rintro e w1 ⟨rfl, X1, h1⟩; have H1 := Lib.hid h1; clear h1)
  (try simp only [to1])
  refine bodyPost_ret (results_none rfl _ _ _) rfl ?_
  exact ⟨rfl, X1, H1.out⟩
theorem wstep_e4y (h : Wy w0 w base WB M r j false t kw tw Z X) (hi : Z.i = 2) (hs : Z.st = false) (hn : M.n ≤ 1000000000) {x : Nat} (hx : x = S2.look M.L 0) (hxe : x = tw) :
    Calls Tryz.prog 177 #[Pw Z.B, Pw WB] w fun e w' => e = .returned (.tuple #[]) ∧ ∃ X', Wy w0 w' base WB (M.acc 1 0 x) r j false t kw tw { Z with st := false, i := 4 } X' := by
  have hd := h.new (Below.refl _ _).drew
  have c0 : w.cell? ⟨Z.B, 0, none⟩ = some (.slice (some ⟨Z.PB, 0, none⟩) 4 4) := h.c.1
  have c1 : w.cell? ⟨Z.B, 1, none⟩ = some (.int .i64 2) := by have := h.c.2.1; rw [hi] at this; exact this
  have p0 := h.pcell 2 (askV Z.TB) rfl
  have hm := m_astep Z.TB
  have HST := Lib.hid (astep_t hd hn hx (b := false) (by rw [hxe, decide_eq_true rfl]; rfl))
  have HI := Lib.hid hi
  have HS := Lib.hid hs
  clear h hd hi hs hn hx hxe
  go_enter Tryz.func177, Tryz.ntmps177
  refine wp_scope_one rfl ?_
  go_upto_region 0 with (fail)
  go_still_tail 16, (by kernel_rfl)
  change wpList _ _ _ _ _ w.drew
  go_upto_region 1 with (go_at_call 330; refine HST.out.mono ?_; rintro e w1 ⟨rfl, X1, h1⟩; have H1 := Lib.hid h1; clear h1)
  clear c0 c1 p0 hm HST
  have c1 : w1.cell? ⟨Z.B, 1, none⟩ = some (.int .i64 2) := by have := H1.out.c.2.1; rw [HI.out] at this; exact this
  have f1 := (H1.out.fz 1).1
  go_wp2_with fail
  go_step3
  go_wp2_with fail
  have h2 := H1.out.put 1 (.int .i64 3) { Z with st := false, i := 3 } rfl rfl rfl rfl rfl
  have H2 := Lib.hid h2
  clear h2 c1 f1
  generalize w1.setCell ⟨Z.B, 1, none⟩ (.int .i64 3) = w2 at *
  refine wp_loop_rounds 2 ?_
  rw [rounds_succ]
  refine wp_seq (wp_seq ?_)
  have c0 : w2.cell? ⟨Z.B, 0, none⟩ = some (.slice (some ⟨Z.PB, 0, none⟩) 4 4) := H2.out.c.1
  have c1 : w2.cell? ⟨Z.B, 1, none⟩ = some (.int .i64 3) := H2.out.c.2.1
  go_upto_region 2 with (fail)
  go_quiet (fail)
  go_upto_region 4 with (fail)
  have H3 := Lib.hid (H2.out.new (below_n w2 nq))
  clear c0 c1
  generalize w2.drewN nq = w3 at *
  have c0 : w3.cell? ⟨Z.B, 0, none⟩ = some (.slice (some ⟨Z.PB, 0, none⟩) 4 4) := H3.out.c.1
  have c1 : w3.cell? ⟨Z.B, 1, none⟩ = some (.int .i64 3) := H3.out.c.2.1
  have p0 := H3.out.pcell 3 leaveV rfl
  have hm := m_lbeg
  have HTB := Lib.hid (lbegin_no (H3.out.new (Below.refl _ _).drew) rfl)
  go_still_tail 15, (by kernel_rfl)
  change wpList _ _ _ _ _ w3.drew
  go_upto_region 3 with (go_at_call 331; refine HTB.out.mono ?_; rintro e w4 ⟨rfl, hb4⟩; have H4 := Lib.hid (H3.out.new ((Below.refl _ _).drew.trans hb4)); clear hb4)
  clear c0 c1 p0 hm HTB
  have c1 : w4.cell? ⟨Z.B, 1, none⟩ = some (.int .i64 3) := H4.out.c.2.1
  have f1 := (H4.out.fz 1).1
  go_wp2_with fail
  have h5 := H4.out.put 1 (.int .i64 4) { Z with st := false, i := 4 } rfl rfl rfl rfl rfl
  have H5 := Lib.hid h5
  clear h5 c1 f1
  generalize w4.setCell ⟨Z.B, 1, none⟩ (.int .i64 4) = w5 at *
  (try simp only [Exit.inBlock, Exit.then])
  rw [rounds_succ]
  refine wp_seq (wp_seq ?_)
  have c0 : w5.cell? ⟨Z.B, 0, none⟩ = some (.slice (some ⟨Z.PB, 0, none⟩) 4 4) := H5.out.c.1
  have c1 : w5.cell? ⟨Z.B, 1, none⟩ = some (.int .i64 4) := H5.out.c.2.1
  go_upto_region 2 with (fail)
  go_quiet (fail)
  go_upto_region 5 with (fail)
  have H6 := Lib.hid (H5.out.new (below_n w5 nq))
  clear c0 c1
  generalize w5.drewN nq = w6 at *
  have c7 : w6.cell? ⟨Z.B, 7, none⟩ = some (.bool false) := H6.out.c.2.2.2.2.2.2.2.1
  go_wp2_with fail
  (try simp only [to1])
  refine bodyPost_end (results_none rfl _ _ _) rfl ?_
  exact ⟨rfl, X1, H6.out⟩
theorem wstep_o5y (h : Wy w0 w base WB M r j true t kw tw Z X) (hi : Z.i = 4) (hs : Z.st = false) (ht : t < 64) (hn : M.n ≤ 1000000000) {x : Nat} (hx : x = S2.look M.L (64 + t)) (hxe : x % 4294967296 = kw) :
    Calls Tryz.prog 177 #[Pw Z.B, Pw WB] w fun e w' => e = .returned (.tuple #[]) ∧ ∃ X', Wy w0 w' base WB (M.acc 1 (64 + t) x) r j true t kw tw { Z with st := false, i := 6 } X' := by
  have hd := h.new (Below.refl _ _).drew
  have c0 : w.cell? ⟨Z.B, 0, none⟩ = some (.slice (some ⟨Z.PB, 0, none⟩) 6 6) := h.c.1
  have c1 : w.cell? ⟨Z.B, 1, none⟩ = some (.int .i64 4) := by have := h.c.2.1; rw [hi] at this; exact this
  have p0 := h.pcell 4 (askV Z.KB) rfl
  have hm := m_astep Z.KB
  have HST := Lib.hid (astep_k hd hn ht hx rfl rfl (b := false) (by rw [hxe, decide_eq_true rfl]; rfl))
  have HI := Lib.hid hi
  have HS := Lib.hid hs
  clear h hd hi hs ht hn hx hxe
  go_enter Tryz.func177, Tryz.ntmps177
  refine wp_scope_one rfl ?_
  go_upto_region 0 with (fail)
  go_still_tail 16, (by kernel_rfl)
  change wpList _ _ _ _ _ w.drew
  go_upto_region 1 with (go_at_call 330; refine HST.out.mono ?_; rintro e w1 ⟨rfl, X1, h1⟩; have H1 := Lib.hid h1; clear h1)
  clear c0 c1 p0 hm HST
  have c1 : w1.cell? ⟨Z.B, 1, none⟩ = some (.int .i64 4) := by have := H1.out.c.2.1; rw [HI.out] at this; exact this
  have f1 := (H1.out.fz 1).1
  go_wp2_with fail
  go_step3
  go_wp2_with fail
  have h2 := H1.out.put 1 (.int .i64 5) { Z with st := false, i := 5 } rfl rfl rfl rfl rfl
  have H2 := Lib.hid h2
  clear h2 c1 f1
  generalize w1.setCell ⟨Z.B, 1, none⟩ (.int .i64 5) = w2 at *
  refine wp_loop_rounds 2 ?_
  rw [rounds_succ]
  refine wp_seq (wp_seq ?_)
  have c0 : w2.cell? ⟨Z.B, 0, none⟩ = some (.slice (some ⟨Z.PB, 0, none⟩) 6 6) := H2.out.c.1
  have c1 : w2.cell? ⟨Z.B, 1, none⟩ = some (.int .i64 5) := H2.out.c.2.1
  go_upto_region 2 with (fail)
  go_quiet (fail)
  go_upto_region 4 with (fail)
  have H3 := Lib.hid (H2.out.new (below_n w2 nq))
  clear c0 c1
  generalize w2.drewN nq = w3 at *
  have c0 : w3.cell? ⟨Z.B, 0, none⟩ = some (.slice (some ⟨Z.PB, 0, none⟩) 6 6) := H3.out.c.1
  have c1 : w3.cell? ⟨Z.B, 1, none⟩ = some (.int .i64 5) := H3.out.c.2.1
  have p0 := H3.out.pcell 5 leaveV rfl
  have hm := m_lbeg
  have HTB := Lib.hid (lbegin_no (H3.out.new (Below.refl _ _).drew) rfl)
  go_still_tail 15, (by kernel_rfl)
  change wpList _ _ _ _ _ w3.drew
  go_upto_region 3 with (go_at_call 331; refine HTB.out.mono ?_; rintro e w4 ⟨rfl, hb4⟩; have H4 := Lib.hid (H3.out.new ((Below.refl _ _).drew.trans hb4)); clear hb4)
  clear c0 c1 p0 hm HTB
  have c1 : w4.cell? ⟨Z.B, 1, none⟩ = some (.int .i64 5) := H4.out.c.2.1
  have f1 := (H4.out.fz 1).1
  go_wp2_with fail
  have h5 := H4.out.put 1 (.int .i64 6) { Z with st := false, i := 6 } rfl rfl rfl rfl rfl
  have H5 := Lib.hid h5
  clear h5 c1 f1
  generalize w4.setCell ⟨Z.B, 1, none⟩ (.int .i64 6) = w5 at *
  (try simp only [Exit.inBlock, Exit.then])
  rw [rounds_succ]
  refine wp_seq (wp_seq ?_)
  have c0 : w5.cell? ⟨Z.B, 0, none⟩ = some (.slice (some ⟨Z.PB, 0, none⟩) 6 6) := H5.out.c.1
  have c1 : w5.cell? ⟨Z.B, 1, none⟩ = some (.int .i64 6) := H5.out.c.2.1
  go_upto_region 2 with (fail)
  go_quiet (fail)
  go_upto_region 5 with (fail)
  have H6 := Lib.hid (H5.out.new (below_n w5 nq))
  clear c0 c1
  generalize w5.drewN nq = w6 at *
  have c7 : w6.cell? ⟨Z.B, 7, none⟩ = some (.bool false) := H6.out.c.2.2.2.2.2.2.2.1
  go_wp2_with fail
  (try simp only [to1])
  refine bodyPost_end (results_none rfl _ _ _) rfl ?_
  exact ⟨rfl, X1, H6.out⟩
theorem wstep_o6n (h : Wy w0 w base WB M r j true t kw tw Z X) (hi : Z.i = 5) (hs : Z.st = true) {K : Fr} (hju : j ≠ u) (hq : r[u]? = some (freeP U K)) (huv : Z.uv = freeU U) (ok : FrOk M K) (h7 : K.ln ≤ 7) (hov : (fstepK M K).ln ≠ 0) :
    Calls Tryz.prog 177 #[Pw Z.B, Pw WB] w fun e w' => e = .returned (.tuple #[]) ∧ ∃ X', Wy w0 w' base WB (fstepM M K) (r.set u (freeP U (fstepK M K))) j true t kw tw Z X' := by
  have hd := h.new (Below.refl _ _).drew
  have hst := steps_free hd hju hq huv ok h7
  rw [decide_eq_false hov] at hst
  have c0 : w.cell? ⟨Z.B, 0, none⟩ = some (.slice (some ⟨Z.PB, 0, none⟩) 6 6) := h.c.1
  have c1 : w.cell? ⟨Z.B, 1, none⟩ = some (.int .i64 5) := by have := h.c.2.1; rw [hi] at this; exact this
  have p0 := h.pcell 5 leaveV rfl
  have hm := m_lstep
  have HST := Lib.hid (hst)
  have HI := Lib.hid hi
  have HS := Lib.hid hs
  clear h hd hi hs hju hq huv ok h7 hov hst
  go_enter Tryz.func177, Tryz.ntmps177
  refine wp_scope_one rfl ?_
  go_upto_region 0 with (fail)
  go_still_tail 16, (by kernel_rfl)
  change wpList _ _ _ _ _ w.drew
  go_wp2_with (go_at_call 316; refine HST.out.mono ?_; rintro e w1 ⟨rfl, X1, h1⟩; have H1 := Lib.hid h1; clear h1)
  (try simp only [to1])
  refine bodyPost_ret (results_none rfl _ _ _) rfl ?_
  exact ⟨rfl, X1, H1.out⟩
end
end Go.Proofs.YtieiiabbeglmfaaGreatDoor.S15
set_option linter.unusedVariables false
set_option linter.unusedSimpArgs false
namespace Go.Proofs.YtieiiabbeglmfaaGreatDoor.S15
set_option maxRecDepth 100000
set_option maxHeartbeats 16000000
open Go.Proofs.YtieiiabbeglmfaaGreatDoor Go.Proofs.YtieiiabbeglmfaaGreatDoor.S11 Go.Proofs.YtieiiabbeglmfaaGreatDoor.S12 Go.Proofs.YtieiiabbeglmfaaGreatDoor.S13 Go.Proofs.YtieiiabbeglmfaaGreatDoor.S14
open Go.RowKit
section
variable {w0 w w' : World} {base WB : Nat} {M : Sd} {r : List Part} {j u U : Nat} {o : Bool} {t kw tw : Nat} {Z : Wb} {X : Wm}
theorem wover_any (h : Wy w0 w base WB M r j o t kw tw Z X) : Calls Tryz.prog 184 #[Pw Z.B] w fun e w' => e = .returned (.bool (decide ((nPart o : Int) ≤ Z.i))) ∧ Below w.heap.size w w' := by
  have c0 := h.c.1; have c1 := h.c.2.1
  generalize Z.i = i at *
  generalize nPart o = n at *
  clear h
  by_cases g : (n : Int) ≤ i
  · rw [decide_eq_true g]
    have d1 : decide ((n : Int) ≤ i) = true := decide_eq_true g
    go_enter Tryz.func184, Tryz.ntmps184
    go_upto_region 1 with (fail)
    go_quiet (fail)
    go_wp2_with fail
    go_ret
    exact ⟨rfl, below_n _ _⟩
  · rw [decide_eq_false g]
    have d1 : decide ((n : Int) ≤ i) = false := decide_eq_false g
    go_enter Tryz.func184, Tryz.ntmps184
    go_upto_region 1 with (fail)
    go_quiet (fail)
    go_wp2_with fail
    go_ret
    exact ⟨rfl, below_n _ _⟩
theorem eover_any (h : Wy w0 w base WB M r j o t kw tw Z X) : Calls Tryz.prog 176 #[Pw Z.B] w fun e w' => e = .returned (.bool (decide ((nPart o : Int) ≤ Z.i))) ∧ Below w.heap.size w w' := by
  have HW := Lib.hid (wover_any h)
  clear h
  generalize decide ((nPart o : Int) ≤ Z.i) = b at *
  go_enter Tryz.func176, Tryz.ntmps176
  go_wp2_with (go_at_call 184; refine HW.out.mono ?_; rintro e w1 ⟨rfl, hb⟩)
  go_ret
  exact ⟨rfl, hb⟩
theorem oover_any (h : Wy w0 w base WB M r j o t kw tw Z X) : Calls Tryz.prog 333 #[Pw Z.B] w fun e w' => e = .returned (.bool (decide ((nPart o : Int) ≤ Z.i))) ∧ Below w.heap.size w w' := by
  have HW := Lib.hid (wover_any h)
  clear h
  generalize decide ((nPart o : Int) ≤ Z.i) = b at *
  go_enter Tryz.func333, Tryz.ntmps333
  go_wp2_with (go_at_call 184; refine HW.out.mono ?_; rintro e w1 ⟨rfl, hb⟩)
  go_ret
  exact ⟨rfl, hb⟩
theorem Wy.turnLast {Q : Nat} {ob : Obj} (h : Wy w0 w base WB M (r ++ [blockP Q ob]) j o t kw tw Z X) (hj : j < r.length) (ob' : Obj) (hq : w'.heap[Q]? = some ob') (tn : Turns (fun k => k = Q) w w') : Wy w0 w' base WB M (r ++ [blockP Q ob']) j o t kw tw Z X := by
  have hi : ((r ++ [blockP Q ob]).set j (wayP o t kw tw Z))[r.length]? = some (blockP Q ob) := by
    rw [List.set_append_left _ _ hj, List.getElem?_append_right (by rw [List.length_set]; exact Nat.le_refl _), List.length_set, Nat.sub_self]; rfl
  have h2 := h.pg.turn hi (blockP Q ob') hq tn (fun k e => .inl e)
  rw [List.set_append_left _ _ hj] at h2
  rw [List.set_append_right _ _ (by rw [List.length_set]; exact Nat.le_refl _), List.length_set, Nat.sub_self] at h2
  refine ⟨?_, by rw [List.length_append]; simp; omega⟩
  rw [List.set_append_left _ _ hj]
  exact h2
theorem below_turn {w w1 w2 w3 : World} {Q : Nat} (h1 : Below w.heap.size w w1) (h2 : Below w1.heap.size w1 w2) (ht : Turns (fun k => k = Q) w2 w3) (hQ : Q = w.heap.size) : Below w.heap.size w w3 := by
  have hb := h1.trans (h2.mono h1.size)
  exact hb.trans (ht.below hb.size (fun k hk e => by have h1 : k = Q := e; omega))
abbrev plV (b i : Int) : Value := .agg #[.int .i64 b, .int .i64 i]
theorem wgot_yes (h : Wy w0 w base WB M r j o t kw tw Z X) (hi : (nPart o : Int) ≤ Z.i) : Calls Tryz.prog 155 #[Pw Z.B] w fun e w' => e = .returned (.tuple #[plV Z.pb Z.pi, .int .u32 ((kw % 4294967296 : Nat) : Int)]) ∧ Below w.heap.size w w' := by
  have hj := h.hj
  have HB := Lib.hid (below1 w (.cells #[.int .i64 0, .int .i64 0] 97))
  have hA := h.pushB (.cells #[.int .i64 0, .int .i64 0] 97)
  have hov := fun (W : World) (hb : Below w.heap.size w W) => wover_any (h.new hb)
  rw [decide_eq_true hi] at hov
  have hov1 := hov _ (below1 w (.cells #[.int .i64 0, .int .i64 0] 97))
  obtain ⟨Q, hQ⟩ : ∃ Q, Q = w.heap.size := ⟨_, rfl⟩
  rw [← hQ] at hA
  obtain ⟨b, hb⟩ : ∃ b, b = Z.pb := ⟨_, rfl⟩
  obtain ⟨i, hpi⟩ : ∃ i, i = Z.pi := ⟨_, rfl⟩
  have ew : IntKind.u32.wrap (kw : Int) = ((kw % 4294967296 : Nat) : Int) := by rw [IntKind.wrap_u32]; omega
  have c3 := hA.c.2.2.2.1
  have HOV := Lib.hid hov1; have HA := Lib.hid hA; have HJ := Lib.hid hj; have HBI := Lib.hid (And.intro hb hpi); have HQ := Lib.hid hQ
  rw [← hb, ← hpi]
  obtain ⟨ky, hky⟩ : ∃ ky, ky = kw % 4294967296 := ⟨_, rfl⟩
  rw [← hky] at ew ⊢
  clear h hov hov1 hi hj hA hQ hb hpi hky
  go_enter Tryz.func155, Tryz.ntmps155
  go_upto_region 1 with (fail)
  rw [← HQ.out]
  generalize w.alloc (.cells #[.int .i64 0, .int .i64 0] 97) = w1 at *
  go_upto_region 3 with (go_at_call 184; refine HOV.out.mono ?_; rintro e w2 ⟨rfl, hb2⟩; have H2 := Lib.hid (HA.out.new hb2); have HB2 := Lib.hid hb2; have c3 := (HA.out.new hb2).c.2.2.2.1; clear hb2)
  clear c3
  refine wp_region_held_drew (S := fun w' => w'.cell? ⟨Z.B, 5, none⟩ = some (.int .i64 b) ∧ w'.cell? ⟨Z.B, 6, none⟩ = some (.int .i64 i) ∧ w'.cell? ⟨Z.B, 3, none⟩ = some (Pw Z.KB) ∧ w'.cell? ⟨Z.KB, 2, none⟩ = some (.int .u64 (kw : Int))) (by kernel_rfl) ?_ (fun hHeld => ?_)
  · exact ⟨by rw [HBI.out.1]; exact (H2.out.new (Below.refl _ _).drew).c.2.2.2.2.2.1, by rw [HBI.out.2]; exact (H2.out.new (Below.refl _ _).drew).c.2.2.2.2.2.2.1, (H2.out.new (Below.refl _ _).drew).c.2.2.2.1, (H2.out.new (Below.refl _ _).drew).kc.2⟩
  refine tA 0 ⟨some 16, .move (.tmp 0), 347, "parts.go:68", #[], none⟩ ?vgm1 ?rgm1
  (try simp only [Act.put, tC, tD, tE])
  refine tA 1 ⟨some 17, .nilCheck (.tmp 16), 0, "parts.go:68", #[⟨0, .data⟩], none⟩ ?vgm2 ?rgm2
  (try simp only [Act.put, tC, tD, tE])
  refine tA 2 ⟨some 18, .fieldAddr 264 (.tmp 17) 2, 0, "parts.go:68", #[⟨1, .data⟩], none⟩ ?vgm3 ?rgm3
  (try simp only [Act.put, tC, tD, tE])
  refine tA 3 ⟨some 19, .fieldAddr 262 (.tmp 18) 3, 0, "parts.go:68", #[⟨2, .data⟩], none⟩ ?vgm4 ?rgm4
  (try simp only [Act.put, tC, tD, tE])
  refine tA 4 ⟨some 20, .load 97 (.tmp 19), 97, "parts.go:68", #[⟨3, .data⟩], none⟩ ?vgm5 ?rgm5
  (try simp only [Act.put, tC, tD, tE])
  refine tA 5 ⟨some 21, .move (.tmp 0), 347, "parts.go:68", #[⟨14, .gcOnly .lateStores⟩], none⟩ ?vgm6 ?rgm6
  (try simp only [Act.put, tC, tD, tE])
  refine tA 6 ⟨some 22, .nilCheck (.tmp 21), 0, "parts.go:68", #[⟨5, .data⟩, ⟨14, .gcOnly .lateStores⟩], none⟩ ?vgm7 ?rgm7
  (try simp only [Act.put, tC, tD, tE])
  refine tA 7 ⟨some 23, .fieldAddr 264 (.tmp 22) 2, 0, "parts.go:68", #[⟨6, .data⟩, ⟨14, .gcOnly .lateStores⟩], none⟩ ?vgm8 ?rgm8
  (try simp only [Act.put, tC, tD, tE])
  refine tA 8 ⟨some 24, .fieldAddr 262 (.tmp 23) 1, 0, "parts.go:68", #[⟨7, .data⟩, ⟨14, .gcOnly .lateStores⟩], none⟩ ?vgm9 ?rgm9
  (try simp only [Act.put, tC, tD, tE])
  refine tA 9 ⟨some 25, .load 258 (.tmp 24), 258, "parts.go:68", #[⟨8, .data⟩, ⟨14, .gcOnly .lateStores⟩], none⟩ ?vgm10 ?rgm10
  (try simp only [Act.put, tC, tD, tE])
  refine tA 10 ⟨some 26, .nilCheck (.tmp 25), 0, "parts.go:68", #[⟨9, .data⟩, ⟨14, .gcOnly .lateStores⟩], none⟩ ?vgm11 ?rgm11
  (try simp only [Act.put, tC, tD, tE])
  refine tA 11 ⟨some 27, .fieldAddr 268 (.tmp 26) 2, 0, "parts.go:68", #[⟨10, .data⟩, ⟨14, .gcOnly .lateStores⟩], none⟩ ?vgm12 ?rgm12
  (try simp only [Act.put, tC, tD, tE])
  refine tA 12 ⟨some 28, .load 23 (.tmp 27), 23, "parts.go:68", #[⟨11, .data⟩, ⟨14, .gcOnly .lateStores⟩], none⟩ ?vgm13 ?rgm13
  (try simp only [Act.put, tC, tD, tE])
  refine tA 13 ⟨some 29, .convert 23 35 (.tmp 28), 35, "parts.go:68", #[⟨12, .data⟩, ⟨14, .gcOnly .lateStores⟩], none⟩ ?vgm14 ?rgm14
  (try simp only [Act.put, tC, tD, tE])
  refine wpAnyH_ready (rs := [14]) (by kernel_rfl) (by simp) ?_
  refine AllReadyH.cons (o := ⟨none, .store 97 (.tmp 2) (.tmp 20), 0, "parts.go:68", #[⟨4, .data⟩, ⟨0, .phase⟩, ⟨1, .phase⟩, ⟨2, .phase⟩, ⟨3, .phase⟩, ⟨4, .phase⟩, ⟨5, .textOnly .lateStores⟩, ⟨6, .textOnly .lateStores⟩, ⟨7, .textOnly .lateStores⟩, ⟨8, .textOnly .lateStores⟩, ⟨9, .textOnly .lateStores⟩, ⟨10, .textOnly .lateStores⟩, ⟨11, .textOnly .lateStores⟩, ⟨12, .textOnly .lateStores⟩, ⟨13, .textOnly .lateStores⟩], none⟩) rfl (fun Kq hKq => ?_) AllReadyH.nil
  (have q0 : w2.cell? ⟨Q, 0, none⟩ = some (.int .i64 0) := cell_row (H2.out.last HJ.out) 0; have q1 : w2.cell? ⟨Q, 1, none⟩ = some (.int .i64 0) := cell_row (H2.out.last HJ.out) 1; have z0 := froz_row (H2.out.last HJ.out) 0; have z1 := froz_row (H2.out.last HJ.out) 1; go_simp; have h3 := H2.out.turnLast HJ.out (.cells #[.int .i64 b, .int .i64 i] 97) (set_blk (set_blk (H2.out.last HJ.out) 0 (.int .i64 b) _ rfl) 1 (.int .i64 i) _ rfl) (((Turns.refl (fun k => k = Q) w2).setCell ⟨Q, 0, none⟩ _ rfl).setCell ⟨Q, 1, none⟩ _ rfl); have H3 := Lib.hid (h3.new (Below.refl _ _).drew); have HT := Lib.hid (((Turns.refl (fun k => k = Q) w2).setCell ⟨Q, 0, none⟩ (.int .i64 b) rfl).setCell ⟨Q, 1, none⟩ (.int .i64 i) rfl); clear q0 q1 z0 z1 h3; generalize (w2.setCell ⟨Q, 0, none⟩ (.int .i64 b)).setCell ⟨Q, 1, none⟩ (.int .i64 i) = w3 at *)
  refine hKq.out _ _ ?_ (fun hHeld => ?_)
  · exact ⟨by rw [HBI.out.1]; exact H3.out.c.2.2.2.2.2.1, by rw [HBI.out.2]; exact H3.out.c.2.2.2.2.2.2.1, H3.out.c.2.2.2.1, H3.out.kc.2⟩
  clear hKq Kq
  (try simp only [Act.put, tC, tD, tE])
  refine tA 15 ⟨some 3, .assign (.tmp 29), 35, "parts.go:68", #[⟨13, .data⟩, ⟨14, .chain⟩, ⟨0, .phase⟩, ⟨1, .phase⟩, ⟨2, .phase⟩, ⟨3, .phase⟩, ⟨4, .phase⟩, ⟨5, .phase⟩, ⟨6, .phase⟩, ⟨7, .phase⟩, ⟨8, .phase⟩, ⟨9, .phase⟩, ⟨10, .phase⟩, ⟨11, .phase⟩, ⟨12, .phase⟩, ⟨13, .phase⟩, ⟨14, .phase⟩], none⟩ ?vgm15 ?rgm15
  (try simp only [Act.put, tC, tD, tE])
  refine wpAnyH_done (by kernel_rfl) ?_ _
  have q0 : w3.cell? ⟨Q, 0, none⟩ = some (.int .i64 b) := cell_row (H3.out.last HJ.out) 0
  have q1 : w3.cell? ⟨Q, 1, none⟩ = some (.int .i64 i) := cell_row (H3.out.last HJ.out) 1
  clear hHeld HOV HA H2 HBI
  go_wp2_with fail
  exact bodyPost_ret (v := .tuple #[plV b i, .int .u32 (ky : Int)]) (by simp [results, Tryz.results155, go_sem, q0, q1]) rfl ⟨rfl, (below_turn HB.out HB2.out HT.out HQ.out).trans (Below.refl _ _).drew⟩
theorem wgot_no (h : Wy w0 w base WB M r j o t kw tw Z X) (hi : ¬ (nPart o : Int) ≤ Z.i) : Calls Tryz.prog 155 #[Pw Z.B] w fun e w' => e = .returned (.tuple #[plV 0 0, .int .u32 0]) ∧ Below w.heap.size w w' := by
  have hov := fun (W : World) (hb : Below w.heap.size w W) => wover_any (h.new hb)
  rw [decide_eq_false hi] at hov
  have hov1 := hov _ (below1 w (.cells #[.int .i64 0, .int .i64 0] 97))
  obtain ⟨Q, hQ⟩ : ∃ Q, Q = w.heap.size := ⟨_, rfl⟩
  have ha := heap_alloc_new w (.cells #[.int .i64 0, .int .i64 0] 97)
  rw [← hQ] at ha
  have HOV := Lib.hid hov1; have HQ := Lib.hid hQ; have HA := Lib.hid ha
  have HB := Lib.hid (below1 w (.cells #[.int .i64 0, .int .i64 0] 97))
  clear h hov hov1 hi hQ ha
  go_enter Tryz.func155, Tryz.ntmps155
  go_upto_region 1 with (fail)
  rw [← HQ.out]
  generalize w.alloc (.cells #[.int .i64 0, .int .i64 0] 97) = w1 at *
  go_upto_region 2 with (go_at_call 184; refine HOV.out.mono ?_; rintro e w2 ⟨rfl, hb2⟩; have HB2 := Lib.hid hb2; clear hb2)
  have l1 : w2.heap[Q]? = some (.cells #[.int .i64 0, .int .i64 0] 97) := by rw [HB2.out.block Q (heap_lt HA.out)]; exact HA.out
  have q0 : w2.cell? ⟨Q, 0, none⟩ = some (.int .i64 0) := cell_row l1 0
  have q1 : w2.cell? ⟨Q, 1, none⟩ = some (.int .i64 0) := cell_row l1 1
  have z0 := froz_row l1 0; have z1 := froz_row l1 1
  have L1 := Lib.hid l1
  clear l1
  go_wp2_with fail
  have l2 : ((w2.setCell ⟨Q, 0, none⟩ (.int .i64 0)).setCell ⟨Q, 1, none⟩ (.int .i64 0)).heap[Q]? = some (.cells #[.int .i64 0, .int .i64 0] 97) := set_blk (set_blk L1.out 0 (.int .i64 0) _ rfl) 1 (.int .i64 0) _ rfl
  have t : Turns (fun k => k = Q) w2 ((w2.setCell ⟨Q, 0, none⟩ (.int .i64 0)).setCell ⟨Q, 1, none⟩ (.int .i64 0)) := ((Turns.refl (fun k => k = Q) w2).setCell ⟨Q, 0, none⟩ _ rfl).setCell ⟨Q, 1, none⟩ _ rfl
  generalize (w2.setCell ⟨Q, 0, none⟩ (.int .i64 0)).setCell ⟨Q, 1, none⟩ (.int .i64 0) = w3 at *
  have p0 : w3.cell? ⟨Q, 0, none⟩ = some (.int .i64 0) := cell_row l2 0
  have p1 : w3.cell? ⟨Q, 1, none⟩ = some (.int .i64 0) := cell_row l2 1
  clear q0 q1 z0 z1 l2
  refine bodyPost_ret (v := .tuple #[plV 0 0, .int .u32 0]) (by simp [results, Tryz.results155, go_sem, p0, p1]) rfl ⟨rfl, ?_⟩
  have hb := HB.out.trans (HB2.out.mono HB.out.size)
  exact hb.trans (t.below hb.size (fun k hk e => by have h1 : k = Q := e; have h2 := HQ.out; omega))
theorem ogot_yes (h : Wy w0 w base WB M r j o t kw tw Z X) (hi : (nPart o : Int) ≤ Z.i) : Calls Tryz.prog 265 #[Pw Z.B] w fun e w' => e = .returned (.tuple #[plV Z.pb Z.pi, .int .u32 ((kw % 4294967296 : Nat) : Int)]) ∧ Below w.heap.size w w' := by
  have hg := wgot_yes (h.new (below1 w (.cells #[.int .i64 0, .int .i64 0] 97))) hi
  obtain ⟨Q, hQ⟩ : ∃ Q, Q = w.heap.size := ⟨_, rfl⟩
  have ha := heap_alloc_new w (.cells #[.int .i64 0, .int .i64 0] 97)
  rw [← hQ] at ha
  obtain ⟨b, hb⟩ : ∃ b, b = Z.pb := ⟨_, rfl⟩
  obtain ⟨i, hpi⟩ : ∃ i, i = Z.pi := ⟨_, rfl⟩
  obtain ⟨ky, hky⟩ : ∃ ky, ky = kw % 4294967296 := ⟨_, rfl⟩
  rw [← hb, ← hpi, ← hky] at hg
  rw [← hb, ← hpi, ← hky]
  have HG := Lib.hid hg; have HQ := Lib.hid hQ; have HA := Lib.hid ha; have HB := Lib.hid (below1 w (.cells #[.int .i64 0, .int .i64 0] 97))
  clear h hg hi hQ ha hb hpi hky
  go_enter Tryz.func265, Tryz.ntmps265
  go_upto_region 1 with (fail)
  rw [← HQ.out]
  generalize w.alloc (.cells #[.int .i64 0, .int .i64 0] 97) = w1 at *
  go_upto_region 3 with (fail)
  have HG2 : Hid (Calls Tryz.prog 155 #[Pw Z.B] w1 fun e w' => e = .returned (.tuple #[plV b i, .int .u32 (ky : Int)]) ∧ (Below w1.heap.size w1 w' ∧ w'.cell? ⟨Q, 0, none⟩ = some (.int .i64 0) ∧ w'.cell? ⟨Q, 1, none⟩ = some (.int .i64 0) ∧ w'.frozen? ⟨Q, 0, none⟩ = false ∧ w'.frozen? ⟨Q, 1, none⟩ = false)) := Lib.hid (HG.out.mono (by
    rintro e w' ⟨rfl, hb2⟩
    have l1 : w'.heap[Q]? = some (.cells #[.int .i64 0, .int .i64 0] 97) := by rw [hb2.block Q (heap_lt HA.out)]; exact HA.out
    exact ⟨rfl, hb2, cell_row l1 0, cell_row l1 1, froz_row l1 0, froz_row l1 1⟩))
  clear HG
  go_wp2_with (go_at_call 155; refine HG2.out.mono ?_; rintro e w2 ⟨rfl, hb2, q0, q1, z0, z1⟩; have HB2 := Lib.hid hb2; clear hb2)
  have l1 : w2.heap[Q]? = some (.cells #[.int .i64 0, .int .i64 0] 97) := by rw [HB2.out.block Q (heap_lt HA.out)]; exact HA.out
  have l2 : ((w2.setCell ⟨Q, 0, none⟩ (.int .i64 b)).setCell ⟨Q, 1, none⟩ (.int .i64 i)).heap[Q]? = some (.cells #[.int .i64 b, .int .i64 i] 97) := set_blk (set_blk l1 0 (.int .i64 b) _ rfl) 1 (.int .i64 i) _ rfl
  have t : Turns (fun k => k = Q) w2 ((w2.setCell ⟨Q, 0, none⟩ (.int .i64 b)).setCell ⟨Q, 1, none⟩ (.int .i64 i)) := ((Turns.refl (fun k => k = Q) w2).setCell ⟨Q, 0, none⟩ _ rfl).setCell ⟨Q, 1, none⟩ _ rfl
  generalize (w2.setCell ⟨Q, 0, none⟩ (.int .i64 b)).setCell ⟨Q, 1, none⟩ (.int .i64 i) = w3 at *
  have p0 : w3.cell? ⟨Q, 0, none⟩ = some (.int .i64 b) := cell_row l2 0
  have p1 : w3.cell? ⟨Q, 1, none⟩ = some (.int .i64 i) := cell_row l2 1
  clear q0 q1 z0 z1 l1 l2
  exact bodyPost_ret (v := .tuple #[plV b i, .int .u32 (ky : Int)]) (by simp [results, Tryz.results265, go_sem, p0, p1]) rfl ⟨rfl, below_turn HB.out HB2.out t HQ.out⟩
theorem egot_yes (h : Wy w0 w base WB M r j o t kw tw Z X) (hi : (nPart o : Int) ≤ Z.i) : Calls Tryz.prog 102 #[Pw Z.B] w fun e w' => e = .returned (plV Z.pb Z.pi) ∧ Below w.heap.size w w' := by
  have hg := wgot_yes (h.new (below1 w (.cells #[.int .i64 0, .int .i64 0] 97))) hi
  obtain ⟨Q, hQ⟩ : ∃ Q, Q = w.heap.size := ⟨_, rfl⟩
  have ha := heap_alloc_new w (.cells #[.int .i64 0, .int .i64 0] 97)
  rw [← hQ] at ha
  obtain ⟨b, hb⟩ : ∃ b, b = Z.pb := ⟨_, rfl⟩
  obtain ⟨i, hpi⟩ : ∃ i, i = Z.pi := ⟨_, rfl⟩
  obtain ⟨ky, hky⟩ : ∃ ky, ky = kw % 4294967296 := ⟨_, rfl⟩
  rw [← hb, ← hpi, ← hky] at hg
  rw [← hb, ← hpi]
  have HG := Lib.hid hg; have HQ := Lib.hid hQ; have HA := Lib.hid ha; have HB := Lib.hid (below1 w (.cells #[.int .i64 0, .int .i64 0] 97))
  clear h hg hi hQ ha hb hpi hky
  go_enter Tryz.func102, Tryz.ntmps102
  go_upto_region 1 with (fail)
  rw [← HQ.out]
  generalize w.alloc (.cells #[.int .i64 0, .int .i64 0] 97) = w1 at *
  go_upto_region 3 with (fail)
  go_upto_region 4 with (go_at_call 155; refine HG.out.mono ?_; rintro e w2 ⟨rfl, hb2⟩; have HB2 := Lib.hid hb2; clear hb2)
  have hb3 : Below w1.heap.size w1 (w2.alloc (.cells #[.int .i64 b, .int .i64 i] 97)) := HB2.out.trans ((below1 w2 (.cells #[.int .i64 b, .int .i64 i] 97)).mono HB2.out.size)
  have l3 := heap_alloc_new w2 (.cells #[.int .i64 b, .int .i64 i] 97)
  obtain ⟨N2, hN2⟩ : ∃ N2, N2 = w2.heap.size := ⟨_, rfl⟩
  rw [← hN2] at l3 ⊢
  have l1 : (w2.alloc (.cells #[.int .i64 b, .int .i64 i] 97)).heap[Q]? = some (.cells #[.int .i64 0, .int .i64 0] 97) := by rw [hb3.block Q (heap_lt HA.out)]; exact HA.out
  have HB3 := Lib.hid hb3
  clear hb3 hN2
  generalize w2.alloc (.cells #[.int .i64 b, .int .i64 i] 97) = w3 at *
  have n0 : w3.cell? ⟨N2, 0, none⟩ = some (.int .i64 b) := cell_row l3 0
  have n1 : w3.cell? ⟨N2, 1, none⟩ = some (.int .i64 i) := cell_row l3 1
  have q0 : w3.cell? ⟨Q, 0, none⟩ = some (.int .i64 0) := cell_row l1 0
  have q1 : w3.cell? ⟨Q, 1, none⟩ = some (.int .i64 0) := cell_row l1 1
  have z0 := froz_row l1 0; have z1 := froz_row l1 1
  have L1 := Lib.hid l1
  clear l1 l3
  go_wp2_with fail
  have l2 : ((w3.setCell ⟨Q, 0, none⟩ (.int .i64 b)).setCell ⟨Q, 1, none⟩ (.int .i64 i)).heap[Q]? = some (.cells #[.int .i64 b, .int .i64 i] 97) := set_blk (set_blk L1.out 0 (.int .i64 b) _ rfl) 1 (.int .i64 i) _ rfl
  have t : Turns (fun k => k = Q) w3 ((w3.setCell ⟨Q, 0, none⟩ (.int .i64 b)).setCell ⟨Q, 1, none⟩ (.int .i64 i)) := ((Turns.refl (fun k => k = Q) w3).setCell ⟨Q, 0, none⟩ _ rfl).setCell ⟨Q, 1, none⟩ _ rfl
  generalize (w3.setCell ⟨Q, 0, none⟩ (.int .i64 b)).setCell ⟨Q, 1, none⟩ (.int .i64 i) = w4 at *
  have p0 : w4.cell? ⟨Q, 0, none⟩ = some (.int .i64 b) := cell_row l2 0
  have p1 : w4.cell? ⟨Q, 1, none⟩ = some (.int .i64 i) := cell_row l2 1
  clear q0 q1 z0 z1 l2 n0 n1 L1
  exact bodyPost_ret (v := plV b i) (by simp [results, Tryz.results102, go_sem, p0, p1]) rfl ⟨rfl, below_turn HB.out HB3.out t HQ.out⟩
end
end Go.Proofs.YtieiiabbeglmfaaGreatDoor.S15
