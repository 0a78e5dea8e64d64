/- Texts of this seat, one behind the other. -/
import Derived.Test.YtieiiabbeglmfaaGreatDoorMLawFair2027
set_option linter.unusedVariables false
set_option linter.unusedSimpArgs false
set_option linter.unusedVariables false
set_option linter.unusedSimpArgs false
set_option linter.unusedVariables false
set_option linter.unusedSimpArgs false
namespace Go.Proofs.YtieiiabbeglmfaaGreatDoor.S15
set_option maxRecDepth 100000
set_option maxHeartbeats 16000000
open Go.Proofs.YtieiiabbeglmfaaGreatDoor Go.Proofs.YtieiiabbeglmfaaGreatDoor.S11 Go.Proofs.YtieiiabbeglmfaaGreatDoor.S12 Go.Proofs.YtieiiabbeglmfaaGreatDoor.S13 Go.Proofs.YtieiiabbeglmfaaGreatDoor.S14
open Go.RowKit
section
variable {w0 w w' : World} {base WB : Nat} {M : Sd} {r : List Part} {j u U : Nat} {o : Bool} {t kw tw : Nat} {Z : Wb} {X : Wm}
theorem wstep_o1 (h : Wy w0 w base WB M r j true t kw tw Z X) (hi : Z.i = 0) (hs : Z.st = false) (ht : t < 64) (hn : M.n ≤ 1000000000) {x : Nat} (hx : x = S2.look M.L (64 + t)) :
    Calls Tryz.prog 177 #[Pw Z.B, Pw WB] w fun e w' => e = .returned (.tuple #[]) ∧ ∃ X', Wy w0 w' base WB (M.acc 1 (64 + t) x) r j true t (x % 4294967296) tw { Z with i := 1 } X' := by
  have hd := h.new (Below.refl _ _).drew
  have c0 : w.cell? ⟨Z.B, 0, none⟩ = some (.slice (some ⟨Z.PB, 0, none⟩) 6 6) := h.c.1
  have c1 : w.cell? ⟨Z.B, 1, none⟩ = some (.int .i64 0) := by have := h.c.2.1; rw [hi] at this; exact this
  have p0 := h.pcell 0 (readV Z.KB) rfl
  have hm := m_rstep Z.KB
  have HST := Lib.hid (rstep_k hd hn ht hx rfl rfl (sP Z.B))
  have HI := Lib.hid hi
  have HS := Lib.hid hs
  clear h hd hi hs ht hn hx
  go_enter Tryz.func177, Tryz.ntmps177
  refine wp_scope_one rfl ?_
  go_upto_region 0 with (fail)
  go_still_tail 16, (by kernel_rfl)
  change wpList _ _ _ _ _ w.drew
  go_upto_region 1 with (go_at_call 315; refine HST.out.mono ?_; rintro e w1 ⟨rfl, X1, h1⟩; have H1 := Lib.hid h1; clear h1)
  clear c0 c1 p0 hm HST
  have c1 : w1.cell? ⟨Z.B, 1, none⟩ = some (.int .i64 0) := by have := H1.out.c.2.1; rw [HI.out] at this; exact this
  have f1 := (H1.out.fz 1).1
  go_wp2_with fail
  go_step3
  go_wp2_with fail
  have h2 := H1.out.put 1 (.int .i64 1) { Z with i := 1 } rfl rfl rfl rfl rfl
  have H2 := Lib.hid h2
  clear h2 c1 f1
  generalize w1.setCell ⟨Z.B, 1, none⟩ (.int .i64 1) = w2 at *
  refine wp_loop_rounds 1 ?_
  rw [rounds_succ]
  refine wp_seq (wp_seq ?_)
  have c0 : w2.cell? ⟨Z.B, 0, none⟩ = some (.slice (some ⟨Z.PB, 0, none⟩) 6 6) := H2.out.c.1
  have c1 : w2.cell? ⟨Z.B, 1, none⟩ = some (.int .i64 1) := H2.out.c.2.1
  go_upto_region 2 with (fail)
  go_quiet (fail)
  go_upto_region 4 with (fail)
  have H3 := Lib.hid (H2.out.new (below_n w2 nq))
  clear c0 c1
  generalize w2.drewN nq = w3 at *
  have c0 : w3.cell? ⟨Z.B, 0, none⟩ = some (.slice (some ⟨Z.PB, 0, none⟩) 6 6) := H3.out.c.1
  have c1 : w3.cell? ⟨Z.B, 1, none⟩ = some (.int .i64 1) := H3.out.c.2.1
  have p0 := H3.out.pcell 1 (readV Z.TB) rfl
  have hm := m_rbeg Z.TB
  have HTB := Lib.hid (fun W => rbegin_any (Pw Z.TB) (sP Z.B) ⟨_, rfl⟩ W)
  go_still_tail 15, (by kernel_rfl)
  change wpList _ _ _ _ _ w3.drew
  go_wp2_with (go_at_call 314; refine (HTB.out _).mono ?_; rintro e w4 ⟨rfl, hb4⟩; have H4 := Lib.hid (H3.out.new ((Below.refl _ _).drew.trans hb4)); clear hb4)
  (try simp only [to1])
  refine bodyPost_ret (results_none rfl _ _ _) rfl ?_
  exact ⟨rfl, X1, H4.out⟩
theorem wstep_e3y (h : Wy w0 w base WB M r j false t kw tw Z X) (hi : Z.i = 1) (hs : Z.st = false) {K : Lk} (hju : j ≠ u) (hq : r[u]? = some (lockP U K)) (huv : Z.uv = lockU U) (ok : LkOk M K) (h6 : K.ln ≤ 6) (hov : (stepK M K).ln = 0) :
    Calls Tryz.prog 177 #[Pw Z.B, Pw WB] w fun e w' => e = .returned (.tuple #[]) ∧ ∃ X', Wy w0 w' base WB (stepM M K) (r.set u (lockP U (stepK M K))) j false t kw tw { Z with i := 2 } X' := by
  have hd := h.new (Below.refl _ _).drew
  have hst := steps_lock hd hju hq huv ok h6
  rw [decide_eq_true hov] at hst
  have c0 : w.cell? ⟨Z.B, 0, none⟩ = some (.slice (some ⟨Z.PB, 0, none⟩) 4 4) := h.c.1
  have c1 : w.cell? ⟨Z.B, 1, none⟩ = some (.int .i64 1) := by have := h.c.2.1; rw [hi] at this; exact this
  have p0 := h.pcell 1 takeV rfl
  have hm := m_tstep
  have HST := Lib.hid (hst)
  have HI := Lib.hid hi
  have HS := Lib.hid hs
  clear h hd hi hs hju hq huv ok h6 hov hst
  go_enter Tryz.func177, Tryz.ntmps177
  refine wp_scope_one rfl ?_
  go_upto_region 0 with (fail)
  go_still_tail 16, (by kernel_rfl)
  change wpList _ _ _ _ _ w.drew
  go_upto_region 1 with (go_at_call 316; refine HST.out.mono ?_; rintro e w1 ⟨rfl, X1, h1⟩; have H1 := Lib.hid h1; clear h1)
  clear c0 c1 p0 hm HST
  have c1 : w1.cell? ⟨Z.B, 1, none⟩ = some (.int .i64 1) := by have := H1.out.c.2.1; rw [HI.out] at this; exact this
  have f1 := (H1.out.fz 1).1
  go_wp2_with fail
  go_step3
  go_wp2_with fail
  have h2 := H1.out.put 1 (.int .i64 2) { Z with i := 2 } rfl rfl rfl rfl rfl
  have H2 := Lib.hid h2
  clear h2 c1 f1
  generalize w1.setCell ⟨Z.B, 1, none⟩ (.int .i64 2) = w2 at *
  refine wp_loop_rounds 1 ?_
  rw [rounds_succ]
  refine wp_seq (wp_seq ?_)
  have c0 : w2.cell? ⟨Z.B, 0, none⟩ = some (.slice (some ⟨Z.PB, 0, none⟩) 4 4) := H2.out.c.1
  have c1 : w2.cell? ⟨Z.B, 1, none⟩ = some (.int .i64 2) := H2.out.c.2.1
  go_upto_region 2 with (fail)
  go_quiet (fail)
  go_upto_region 4 with (fail)
  have H3 := Lib.hid (H2.out.new (below_n w2 nq))
  clear c0 c1
  generalize w2.drewN nq = w3 at *
  have c0 : w3.cell? ⟨Z.B, 0, none⟩ = some (.slice (some ⟨Z.PB, 0, none⟩) 4 4) := H3.out.c.1
  have c1 : w3.cell? ⟨Z.B, 1, none⟩ = some (.int .i64 2) := H3.out.c.2.1
  have p0 := H3.out.pcell 2 (askV Z.TB) rfl
  have hm := m_abeg Z.TB
  have c7 : w3.drew.cell? ⟨Z.B, 7, none⟩ = some (.bool false) := by have := (H3.out.new (Below.refl _ _).drew).c.2.2.2.2.2.2.2.1; rw [HS.out] at this; exact this
  have htb := abegin_any (Q := Z.TB) c7
  rw [show (!false) = true from rfl] at htb
  have HTB := Lib.hid htb
  clear c7 htb
  go_still_tail 15, (by kernel_rfl)
  change wpList _ _ _ _ _ w3.drew
  go_wp2_with (go_at_call 329; refine HTB.out.mono ?_; rintro e w4 ⟨rfl, hb4⟩; have H4 := Lib.hid (H3.out.new ((Below.refl _ _).drew.trans hb4)); clear hb4)
  (try simp only [to1])
  refine bodyPost_ret (results_none rfl _ _ _) rfl ?_
  exact ⟨rfl, X1, H4.out⟩
theorem wstep_e4n (h : Wy w0 w base WB M r j false t kw tw Z X) (hi : Z.i = 2) (hs : Z.st = false) (hju : j ≠ u) (hu : u < r.length) (hn : M.n ≤ 1000000000) {x : Nat} (hx : x = S2.look M.L 0) (hxe : x ≠ tw) {a : Nat} (ha : S10.lockZ Z.pb Z.pi = (a : Int)) :
    Calls Tryz.prog 177 #[Pw Z.B, Pw WB] w fun e w' => e = .returned (.tuple #[]) ∧ ∃ UB X', Wy w0 w' base WB (M.acc 1 0 x) (r.set u (freeP UB (fr0 a))) j false t kw tw { Z with st := true, i := 3, uv := freeU UB } X' := by
  have hd := h.new (Below.refl _ _).drew
  have HJU := Lib.hid hju; have HU := Lib.hid hu
  have HA := Lib.hid ha
  have c0 : w.cell? ⟨Z.B, 0, none⟩ = some (.slice (some ⟨Z.PB, 0, none⟩) 4 4) := h.c.1
  have c1 : w.cell? ⟨Z.B, 1, none⟩ = some (.int .i64 2) := by have := h.c.2.1; rw [hi] at this; exact this
  have p0 := h.pcell 2 (askV Z.TB) rfl
  have hm := m_astep Z.TB
  have HST := Lib.hid (astep_t hd hn hx (b := true) (by rw [decide_eq_false hxe]; rfl))
  have HI := Lib.hid hi
  have HS := Lib.hid hs
  clear h hd hi hs hju hu hn hx hxe ha
  go_enter Tryz.func177, Tryz.ntmps177
  refine wp_scope_one rfl ?_
  go_upto_region 0 with (fail)
  go_still_tail 16, (by kernel_rfl)
  change wpList _ _ _ _ _ w.drew
  go_upto_region 1 with (go_at_call 330; refine HST.out.mono ?_; rintro e w1 ⟨rfl, X1, h1⟩; have H1 := Lib.hid h1; clear h1)
  clear c0 c1 p0 hm HST
  have c1 : w1.cell? ⟨Z.B, 1, none⟩ = some (.int .i64 2) := by have := H1.out.c.2.1; rw [HI.out] at this; exact this
  have f1 := (H1.out.fz 1).1
  go_wp2_with fail
  go_step3
  go_wp2_with fail
  have h2 := H1.out.put 1 (.int .i64 3) { Z with st := true, i := 3 } rfl rfl rfl rfl rfl
  have H2 := Lib.hid h2
  clear h2 c1 f1
  generalize w1.setCell ⟨Z.B, 1, none⟩ (.int .i64 3) = w2 at *
  refine wp_loop_rounds 1 ?_
  rw [rounds_succ]
  refine wp_seq (wp_seq ?_)
  have c0 : w2.cell? ⟨Z.B, 0, none⟩ = some (.slice (some ⟨Z.PB, 0, none⟩) 4 4) := H2.out.c.1
  have c1 : w2.cell? ⟨Z.B, 1, none⟩ = some (.int .i64 3) := H2.out.c.2.1
  go_upto_region 2 with (fail)
  go_quiet (fail)
  go_upto_region 4 with (fail)
  have H3 := Lib.hid (H2.out.new (below_n w2 nq))
  clear c0 c1
  generalize w2.drewN nq = w3 at *
  have c0 : w3.cell? ⟨Z.B, 0, none⟩ = some (.slice (some ⟨Z.PB, 0, none⟩) 4 4) := H3.out.c.1
  have c1 : w3.cell? ⟨Z.B, 1, none⟩ = some (.int .i64 3) := H3.out.c.2.1
  have p0 := H3.out.pcell 3 leaveV rfl
  have hm := m_lbeg
  have HTB := Lib.hid (lbegin_yes (H3.out.new (Below.refl _ _).drew) HJU.out HU.out rfl HA.out)
  go_still_tail 15, (by kernel_rfl)
  change wpList _ _ _ _ _ w3.drew
  go_wp2_with (go_at_call 331; refine HTB.out.mono ?_; rintro e w4 ⟨rfl, UB, h4⟩; have H4 := Lib.hid h4; clear h4)
  (try simp only [to1])
  refine bodyPost_ret (results_none rfl _ _ _) rfl ?_
  exact ⟨rfl, UB, X1, H4.out⟩
theorem wstep_o5n (h : Wy w0 w base WB M r j true t kw tw Z X) (hi : Z.i = 4) (hs : Z.st = false) (hju : j ≠ u) (hu : u < r.length) (ht : t < 64) (hn : M.n ≤ 1000000000) {x : Nat} (hx : x = S2.look M.L (64 + t)) (hxe : x % 4294967296 ≠ kw) {a : Nat} (ha : S10.lockZ Z.pb Z.pi = (a : Int)) :
    Calls Tryz.prog 177 #[Pw Z.B, Pw WB] w fun e w' => e = .returned (.tuple #[]) ∧ ∃ UB X', Wy w0 w' base WB (M.acc 1 (64 + t) x) (r.set u (freeP UB (fr0 a))) j true t kw tw { Z with st := true, i := 5, uv := freeU UB } X' := by
  have hd := h.new (Below.refl _ _).drew
  have HJU := Lib.hid hju; have HU := Lib.hid hu
  have HA := Lib.hid ha
  have c0 : w.cell? ⟨Z.B, 0, none⟩ = some (.slice (some ⟨Z.PB, 0, none⟩) 6 6) := h.c.1
  have c1 : w.cell? ⟨Z.B, 1, none⟩ = some (.int .i64 4) := by have := h.c.2.1; rw [hi] at this; exact this
  have p0 := h.pcell 4 (askV Z.KB) rfl
  have hm := m_astep Z.KB
  have HST := Lib.hid (astep_k hd hn ht hx rfl rfl (b := true) (by rw [decide_eq_false hxe]; rfl))
  have HI := Lib.hid hi
  have HS := Lib.hid hs
  clear h hd hi hs hju hu ht hn hx hxe ha
  go_enter Tryz.func177, Tryz.ntmps177
  refine wp_scope_one rfl ?_
  go_upto_region 0 with (fail)
  go_still_tail 16, (by kernel_rfl)
  change wpList _ _ _ _ _ w.drew
  go_upto_region 1 with (go_at_call 330; refine HST.out.mono ?_; rintro e w1 ⟨rfl, X1, h1⟩; have H1 := Lib.hid h1; clear h1)
  clear c0 c1 p0 hm HST
  have c1 : w1.cell? ⟨Z.B, 1, none⟩ = some (.int .i64 4) := by have := H1.out.c.2.1; rw [HI.out] at this; exact this
  have f1 := (H1.out.fz 1).1
  go_wp2_with fail
  go_step3
  go_wp2_with fail
  have h2 := H1.out.put 1 (.int .i64 5) { Z with st := true, i := 5 } rfl rfl rfl rfl rfl
  have H2 := Lib.hid h2
  clear h2 c1 f1
  generalize w1.setCell ⟨Z.B, 1, none⟩ (.int .i64 5) = w2 at *
  refine wp_loop_rounds 1 ?_
  rw [rounds_succ]
  refine wp_seq (wp_seq ?_)
  have c0 : w2.cell? ⟨Z.B, 0, none⟩ = some (.slice (some ⟨Z.PB, 0, none⟩) 6 6) := H2.out.c.1
  have c1 : w2.cell? ⟨Z.B, 1, none⟩ = some (.int .i64 5) := H2.out.c.2.1
  go_upto_region 2 with (fail)
  go_quiet (fail)
  go_upto_region 4 with (fail)
  have H3 := Lib.hid (H2.out.new (below_n w2 nq))
  clear c0 c1
  generalize w2.drewN nq = w3 at *
  have c0 : w3.cell? ⟨Z.B, 0, none⟩ = some (.slice (some ⟨Z.PB, 0, none⟩) 6 6) := H3.out.c.1
  have c1 : w3.cell? ⟨Z.B, 1, none⟩ = some (.int .i64 5) := H3.out.c.2.1
  have p0 := H3.out.pcell 5 leaveV rfl
  have hm := m_lbeg
  have HTB := Lib.hid (lbegin_yes (H3.out.new (Below.refl _ _).drew) HJU.out HU.out rfl HA.out)
  go_still_tail 15, (by kernel_rfl)
  change wpList _ _ _ _ _ w3.drew
  go_wp2_with (go_at_call 331; refine HTB.out.mono ?_; rintro e w4 ⟨rfl, UB, h4⟩; have H4 := Lib.hid h4; clear h4)
  (try simp only [to1])
  refine bodyPost_ret (results_none rfl _ _ _) rfl ?_
  exact ⟨rfl, UB, X1, H4.out⟩
theorem wstep_o6y (h : Wy w0 w base WB M r j true t kw tw Z X) (hi : Z.i = 5) (hs : Z.st = true) {K : Fr} (hju : j ≠ u) (hq : r[u]? = some (freeP U K)) (huv : Z.uv = freeU U) (ok : FrOk M K) (h7 : K.ln ≤ 7) (hov : (fstepK M K).ln = 0) :
    Calls Tryz.prog 177 #[Pw Z.B, Pw WB] w fun e w' => e = .returned (.tuple #[]) ∧ ∃ X', Wy w0 w' base WB (fstepM M K) (r.set u (freeP U (fstepK M K))) j true t kw tw { Z with i := 0, st := false } X' := by
  have hd := h.new (Below.refl _ _).drew
  have hst := steps_free hd hju hq huv ok h7
  rw [decide_eq_true hov] at hst
  have c0 : w.cell? ⟨Z.B, 0, none⟩ = some (.slice (some ⟨Z.PB, 0, none⟩) 6 6) := h.c.1
  have c1 : w.cell? ⟨Z.B, 1, none⟩ = some (.int .i64 5) := by have := h.c.2.1; rw [hi] at this; exact this
  have p0 := h.pcell 5 leaveV rfl
  have hm := m_lstep
  have HST := Lib.hid (hst)
  have HI := Lib.hid hi
  have HS := Lib.hid hs
  clear h hd hi hs hju hq huv ok h7 hov hst
  go_enter Tryz.func177, Tryz.ntmps177
  refine wp_scope_one rfl ?_
  go_upto_region 0 with (fail)
  go_still_tail 16, (by kernel_rfl)
  change wpList _ _ _ _ _ w.drew
  go_upto_region 1 with (go_at_call 316; refine HST.out.mono ?_; rintro e w1 ⟨rfl, X1, h1⟩; have H1 := Lib.hid h1; clear h1)
  clear c0 c1 p0 hm HST
  have c1 : w1.cell? ⟨Z.B, 1, none⟩ = some (.int .i64 5) := by have := H1.out.c.2.1; rw [HI.out] at this; exact this
  have f1 := (H1.out.fz 1).1
  go_wp2_with fail
  go_step3
  go_wp2_with fail
  have h2 := H1.out.put 1 (.int .i64 6) { Z with i := 6 } rfl rfl rfl rfl rfl
  have H2 := Lib.hid h2
  clear h2 c1 f1
  generalize w1.setCell ⟨Z.B, 1, none⟩ (.int .i64 6) = w2 at *
  refine wp_loop_rounds 1 ?_
  rw [rounds_succ]
  refine wp_seq (wp_seq ?_)
  have c0 : w2.cell? ⟨Z.B, 0, none⟩ = some (.slice (some ⟨Z.PB, 0, none⟩) 6 6) := H2.out.c.1
  have c1 : w2.cell? ⟨Z.B, 1, none⟩ = some (.int .i64 6) := H2.out.c.2.1
  go_upto_region 2 with (fail)
  go_quiet (fail)
  go_upto_region 5 with (fail)
  have H3 := Lib.hid (H2.out.new (below_n w2 nq))
  clear c0 c1
  generalize w2.drewN nq = w3 at *
  have c7 : w3.cell? ⟨Z.B, 7, none⟩ = some (.bool true) := by have := H3.out.c.2.2.2.2.2.2.2.1; rw [HS.out] at this; exact this
  have f7 := (H3.out.fz 7).1
  go_upto_region 7 with (fail)
  have h4 := H3.out.put 7 (.bool false) { Z with i := 6, st := false } rfl rfl rfl rfl rfl
  have H4 := Lib.hid h4
  clear h4 c7 f7
  generalize w3.setCell ⟨Z.B, 7, none⟩ (.bool false) = w4 at *
  have c1 : w4.cell? ⟨Z.B, 1, none⟩ = some (.int .i64 6) := H4.out.c.2.1
  have f1 := (H4.out.fz 1).1
  go_wp2_with fail
  have h5 := H4.out.put 1 (.int .i64 (-1)) { Z with i := -1, st := false } rfl rfl rfl rfl rfl
  have H5 := Lib.hid h5
  clear h5 c1 f1
  generalize w4.setCell ⟨Z.B, 1, none⟩ (.int .i64 (-1)) = w5 at *
  go_step3
  refine ⟨rfl, ?_⟩
  show Code.wp _ _ _ _ _
  have c1 : w5.cell? ⟨Z.B, 1, none⟩ = some (.int .i64 (-1)) := H5.out.c.2.1
  have f1 := (H5.out.fz 1).1
  go_wp2_with fail
  have h6 := H5.out.put 1 (.int .i64 0) { Z with i := 0, st := false } rfl rfl rfl rfl rfl
  have H6 := Lib.hid h6
  clear h6 c1 f1
  generalize w5.setCell ⟨Z.B, 1, none⟩ (.int .i64 0) = w6 at *
  refine wp_loop_rounds 1 ?_
  rw [rounds_succ]
  refine wp_seq (wp_seq ?_)
  have c0 : w6.cell? ⟨Z.B, 0, none⟩ = some (.slice (some ⟨Z.PB, 0, none⟩) 6 6) := H6.out.c.1
  have c1 : w6.cell? ⟨Z.B, 1, none⟩ = some (.int .i64 0) := H6.out.c.2.1
  go_upto_region 2 with (fail)
  go_quiet (fail)
  go_upto_region 4 with (fail)
  have H7 := Lib.hid (H6.out.new (below_n w6 nq))
  clear c0 c1
  generalize w6.drewN nq = w7 at *
  have c0 : w7.cell? ⟨Z.B, 0, none⟩ = some (.slice (some ⟨Z.PB, 0, none⟩) 6 6) := H7.out.c.1
  have c1 : w7.cell? ⟨Z.B, 1, none⟩ = some (.int .i64 0) := H7.out.c.2.1
  have p0 := H7.out.pcell 0 (readV Z.KB) rfl
  have hm := m_rbeg Z.KB
  have HTB := Lib.hid (fun W => rbegin_any (Pw Z.KB) (sP Z.B) ⟨_, rfl⟩ W)
  go_still_tail 15, (by kernel_rfl)
  change wpList _ _ _ _ _ w7.drew
  go_wp2_with (go_at_call 314; refine (HTB.out _).mono ?_; rintro e w8 ⟨rfl, hb8⟩; have H8 := Lib.hid (H7.out.new ((Below.refl _ _).drew.trans hb8)); clear hb8)
  (try simp only [Exit.noGoto])
  refine bodyPost_ret (results_none rfl _ _ _) rfl ?_
  exact ⟨rfl, X1, H8.out⟩
end
end Go.Proofs.YtieiiabbeglmfaaGreatDoor.S15
set_option linter.unusedVariables false
set_option linter.unusedSimpArgs false
namespace Go.Proofs.YtieiiabbeglmfaaGreatDoor.S15
set_option maxRecDepth 100000
set_option maxHeartbeats 16000000
open Go.Proofs.YtieiiabbeglmfaaGreatDoor Go.Proofs.YtieiiabbeglmfaaGreatDoor.S11 Go.Proofs.YtieiiabbeglmfaaGreatDoor.S12 Go.Proofs.YtieiiabbeglmfaaGreatDoor.S13 Go.Proofs.YtieiiabbeglmfaaGreatDoor.S14
open Go.RowKit
section
variable {w0 w w' : World} {base WB : Nat} {M : Sd} {r : List Part} {j u U : Nat} {o : Bool} {t kw tw : Nat} {Z : Wb} {X : Wm}
theorem wstep_e2 (h : Wy w0 w base WB M r j false t kw tw Z X) (hi : Z.i = 0) (hs : Z.st = false) (hju : j ≠ u) (hu : u < r.length) (ht : t < 64) (hk : kw < 18446744073709551616) (hn : M.n ≤ 1000000000) {x : Nat} (hx : x = S2.look M.L 0) :
    Calls Tryz.prog 177 #[Pw Z.B, Pw WB] w fun e w' => e = .returned (.tuple #[]) ∧ ∃ UB X', Wy w0 w' base WB (M.acc 1 0 x) (r.set u (lockP UB (lk1 t (lokN (kw % 4294967296) x)))) j false t kw x { Z with i := 1, pb := (bitsN x : Int), pi := (bktN (kw % 4294967296) x : Int), uv := lockU UB } X' := by
  have hd := h.new (Below.refl _ _).drew
  have hx64 : x < 18446744073709551616 := by rw [hx]; exact h.look 0
  have HK := Lib.hid (And.intro ht (And.intro hk hx64))
  have HJU := Lib.hid hju; have HU := Lib.hid hu
  have c0 : w.cell? ⟨Z.B, 0, none⟩ = some (.slice (some ⟨Z.PB, 0, none⟩) 4 4) := h.c.1
  have c1 : w.cell? ⟨Z.B, 1, none⟩ = some (.int .i64 0) := by have := h.c.2.1; rw [hi] at this; exact this
  have p0 := h.pcell 0 (readV Z.TB) rfl
  have hm := m_rstep Z.TB
  have HST := Lib.hid (rstep_t hd hn hx (sP Z.B))
  have HI := Lib.hid hi
  have HS := Lib.hid hs
  clear h hd hi hs ht hk hx64 hju hu hn hx
  go_enter Tryz.func177, Tryz.ntmps177
  refine wp_scope_one rfl ?_
  go_upto_region 0 with (fail)
  go_still_tail 16, (by kernel_rfl)
  change wpList _ _ _ _ _ w.drew
  go_upto_region 1 with (go_at_call 315; refine HST.out.mono ?_; rintro e w1 ⟨rfl, X1, h1⟩; have H1 := Lib.hid h1; clear h1)
  clear c0 c1 p0 hm HST
  have c1 : w1.cell? ⟨Z.B, 1, none⟩ = some (.int .i64 0) := by have := H1.out.c.2.1; rw [HI.out] at this; exact this
  have f1 := (H1.out.fz 1).1
  go_wp2_with fail
  go_step3
  go_wp2_with fail
  have h2 := H1.out.put 1 (.int .i64 1) { Z with i := 1 } rfl rfl rfl rfl rfl
  have H2 := Lib.hid h2
  clear h2 c1 f1
  generalize w1.setCell ⟨Z.B, 1, none⟩ (.int .i64 1) = w2 at *
  refine wp_loop_rounds 1 ?_
  rw [rounds_succ]
  refine wp_seq (wp_seq ?_)
  have c0 : w2.cell? ⟨Z.B, 0, none⟩ = some (.slice (some ⟨Z.PB, 0, none⟩) 4 4) := H2.out.c.1
  have c1 : w2.cell? ⟨Z.B, 1, none⟩ = some (.int .i64 1) := H2.out.c.2.1
  go_upto_region 2 with (fail)
  go_quiet (fail)
  go_upto_region 4 with (fail)
  have H3 := Lib.hid (H2.out.new (below_n w2 nq))
  clear c0 c1
  generalize w2.drewN nq = w3 at *
  have c0 : w3.cell? ⟨Z.B, 0, none⟩ = some (.slice (some ⟨Z.PB, 0, none⟩) 4 4) := H3.out.c.1
  have c1 : w3.cell? ⟨Z.B, 1, none⟩ = some (.int .i64 1) := H3.out.c.2.1
  have p0 := H3.out.pcell 1 takeV rfl
  have hm := m_tbeg
  have HTB := Lib.hid (tbegin_any (H3.out.new (Below.refl _ _).drew) HJU.out HU.out HK.out.1 HK.out.2.1 HK.out.2.2)
  go_still_tail 15, (by kernel_rfl)
  change wpList _ _ _ _ _ w3.drew
  go_wp2_with (go_at_call 317; refine HTB.out.mono ?_; rintro e w4 ⟨rfl, UB, h4⟩; have H4 := Lib.hid h4; clear h4)
  (try simp only [to1])
  refine bodyPost_ret (results_none rfl _ _ _) rfl ?_
  exact ⟨rfl, UB, X1, H4.out⟩
theorem wstep_o3n (h : Wy w0 w base WB M r j true t kw tw Z X) (hi : Z.i = 2) (hs : Z.st = false) {K : Lk} (hju : j ≠ u) (hq : r[u]? = some (lockP U K)) (huv : Z.uv = lockU U) (ok : LkOk M K) (h6 : K.ln ≤ 6) (hov : (stepK M K).ln ≠ 0) :
    Calls Tryz.prog 177 #[Pw Z.B, Pw WB] w fun e w' => e = .returned (.tuple #[]) ∧ ∃ X', Wy w0 w' base WB (stepM M K) (r.set u (lockP U (stepK M K))) j true t kw tw Z X' := by
  have hd := h.new (Below.refl _ _).drew
  have hst := steps_lock hd hju hq huv ok h6
  rw [decide_eq_false hov] at hst
  have c0 : w.cell? ⟨Z.B, 0, none⟩ = some (.slice (some ⟨Z.PB, 0, none⟩) 6 6) := h.c.1
  have c1 : w.cell? ⟨Z.B, 1, none⟩ = some (.int .i64 2) := by have := h.c.2.1; rw [hi] at this; exact this
  have p0 := h.pcell 2 takeV rfl
  have hm := m_tstep
  have HST := Lib.hid (hst)
  have HI := Lib.hid hi
  have HS := Lib.hid hs
  clear h hd hi hs hju hq huv ok h6 hov hst
  go_enter Tryz.func177, Tryz.ntmps177
  refine wp_scope_one rfl ?_
  go_upto_region 0 with (fail)
  go_still_tail 16, (by kernel_rfl)
  change wpList _ _ _ _ _ w.drew
  go_wp2_with (go_at_call 316; refine HST.out.mono ?_; rintro e w1 ⟨rfl, X1, h1⟩; have H1 := Lib.hid h1; clear h1)
  (try simp only [to1])
  refine bodyPost_ret (results_none rfl _ _ _) rfl ?_
  exact ⟨rfl, X1, H1.out⟩
theorem wstep_o4y (h : Wy w0 w base WB M r j true t kw tw Z X) (hi : Z.i = 3) (hs : Z.st = false) (hn : M.n ≤ 1000000000) {x : Nat} (hx : x = S2.look M.L 0) (hxe : x = tw) :
    Calls Tryz.prog 177 #[Pw Z.B, Pw WB] w fun e w' => e = .returned (.tuple #[]) ∧ ∃ X', Wy w0 w' base WB (M.acc 1 0 x) r j true t kw tw { Z with st := false, i := 4 } X' := by
  have hd := h.new (Below.refl _ _).drew
  have c0 : w.cell? ⟨Z.B, 0, none⟩ = some (.slice (some ⟨Z.PB, 0, none⟩) 6 6) := h.c.1
  have c1 : w.cell? ⟨Z.B, 1, none⟩ = some (.int .i64 3) := by have := h.c.2.1; rw [hi] at this; exact this
  have p0 := h.pcell 3 (askV Z.TB) rfl
  have hm := m_astep Z.TB
  have HST := Lib.hid (astep_t hd hn hx (b := false) (by rw [hxe, decide_eq_true rfl]; rfl))
  have HI := Lib.hid hi
  have HS := Lib.hid hs
  clear h hd hi hs hn hx hxe
  go_enter Tryz.func177, Tryz.ntmps177
  refine wp_scope_one rfl ?_
  go_upto_region 0 with (fail)
  go_still_tail 16, (by kernel_rfl)
  change wpList _ _ _ _ _ w.drew
  go_upto_region 1 with (go_at_call 330; refine HST.out.mono ?_; rintro e w1 ⟨rfl, X1, h1⟩; have H1 := Lib.hid h1; clear h1)
  clear c0 c1 p0 hm HST
  have c1 : w1.cell? ⟨Z.B, 1, none⟩ = some (.int .i64 3) := by have := H1.out.c.2.1; rw [HI.out] at this; exact this
  have f1 := (H1.out.fz 1).1
  go_wp2_with fail
  go_step3
  go_wp2_with fail
  have h2 := H1.out.put 1 (.int .i64 4) { Z with st := false, i := 4 } rfl rfl rfl rfl rfl
  have H2 := Lib.hid h2
  clear h2 c1 f1
  generalize w1.setCell ⟨Z.B, 1, none⟩ (.int .i64 4) = w2 at *
  refine wp_loop_rounds 1 ?_
  rw [rounds_succ]
  refine wp_seq (wp_seq ?_)
  have c0 : w2.cell? ⟨Z.B, 0, none⟩ = some (.slice (some ⟨Z.PB, 0, none⟩) 6 6) := H2.out.c.1
  have c1 : w2.cell? ⟨Z.B, 1, none⟩ = some (.int .i64 4) := H2.out.c.2.1
  go_upto_region 2 with (fail)
  go_quiet (fail)
  go_upto_region 4 with (fail)
  have H3 := Lib.hid (H2.out.new (below_n w2 nq))
  clear c0 c1
  generalize w2.drewN nq = w3 at *
  have c0 : w3.cell? ⟨Z.B, 0, none⟩ = some (.slice (some ⟨Z.PB, 0, none⟩) 6 6) := H3.out.c.1
  have c1 : w3.cell? ⟨Z.B, 1, none⟩ = some (.int .i64 4) := H3.out.c.2.1
  have p0 := H3.out.pcell 4 (askV Z.KB) rfl
  have hm := m_abeg Z.KB
  have c7 : w3.drew.cell? ⟨Z.B, 7, none⟩ = some (.bool false) := by have := (H3.out.new (Below.refl _ _).drew).c.2.2.2.2.2.2.2.1; exact this
  have htb := abegin_any (Q := Z.KB) c7
  rw [show (!false) = true from rfl] at htb
  have HTB := Lib.hid htb
  clear c7 htb
  go_still_tail 15, (by kernel_rfl)
  change wpList _ _ _ _ _ w3.drew
  go_wp2_with (go_at_call 329; refine HTB.out.mono ?_; rintro e w4 ⟨rfl, hb4⟩; have H4 := Lib.hid (H3.out.new ((Below.refl _ _).drew.trans hb4)); clear hb4)
  (try simp only [to1])
  refine bodyPost_ret (results_none rfl _ _ _) rfl ?_
  exact ⟨rfl, X1, H4.out⟩
theorem wstep_e6n (h : Wy w0 w base WB M r j false t kw tw Z X) (hi : Z.i = 3) (hs : Z.st = true) {K : Fr} (hju : j ≠ u) (hq : r[u]? = some (freeP U K)) (huv : Z.uv = freeU U) (ok : FrOk M K) (h7 : K.ln ≤ 7) (hov : (fstepK M K).ln ≠ 0) :
    Calls Tryz.prog 177 #[Pw Z.B, Pw WB] w fun e w' => e = .returned (.tuple #[]) ∧ ∃ X', Wy w0 w' base WB (fstepM M K) (r.set u (freeP U (fstepK M K))) j false t kw tw Z X' := by
  have hd := h.new (Below.refl _ _).drew
  have hst := steps_free hd hju hq huv ok h7
  rw [decide_eq_false hov] at hst
  have c0 : w.cell? ⟨Z.B, 0, none⟩ = some (.slice (some ⟨Z.PB, 0, none⟩) 4 4) := h.c.1
  have c1 : w.cell? ⟨Z.B, 1, none⟩ = some (.int .i64 3) := by have := h.c.2.1; rw [hi] at this; exact this
  have p0 := h.pcell 3 leaveV rfl
  have hm := m_lstep
  have HST := Lib.hid (hst)
  have HI := Lib.hid hi
  have HS := Lib.hid hs
  clear h hd hi hs hju hq huv ok h7 hov hst
  go_enter Tryz.func177, Tryz.ntmps177
  refine wp_scope_one rfl ?_
  go_upto_region 0 with (fail)
  go_still_tail 16, (by kernel_rfl)
  change wpList _ _ _ _ _ w.drew
  go_wp2_with (go_at_call 316; refine HST.out.mono ?_; rintro e w1 ⟨rfl, X1, h1⟩; have H1 := Lib.hid h1; clear h1)
  (try simp only [to1])
  refine bodyPost_ret (results_none rfl _ _ _) rfl ?_
  exact ⟨rfl, X1, H1.out⟩
end
end Go.Proofs.YtieiiabbeglmfaaGreatDoor.S15
set_option linter.unusedVariables false
set_option linter.unusedSimpArgs false
namespace Go.Proofs.YtieiiabbeglmfaaGreatDoor.S15
set_option maxRecDepth 100000
set_option maxHeartbeats 16000000
open Go.Proofs.YtieiiabbeglmfaaGreatDoor Go.Proofs.YtieiiabbeglmfaaGreatDoor.S11 Go.Proofs.YtieiiabbeglmfaaGreatDoor.S12 Go.Proofs.YtieiiabbeglmfaaGreatDoor.S13 Go.Proofs.YtieiiabbeglmfaaGreatDoor.S14
open Go.RowKit
section
variable {w0 w w' : World} {base WB : Nat} {M : Sd} {r : List Part} {j u U : Nat} {o : Bool} {t kw tw : Nat} {Z : Wb} {X : Wm}
theorem wstep_o2 (h : Wy w0 w base WB M r j true t kw tw Z X) (hi : Z.i = 1) (hs : Z.st = false) (hju : j ≠ u) (hu : u < r.length) (ht : t < 64) (hk : kw < 18446744073709551616) (hn : M.n ≤ 1000000000) {x : Nat} (hx : x = S2.look M.L 0) :
    Calls Tryz.prog 177 #[Pw Z.B, Pw WB] w fun e w' => e = .returned (.tuple #[]) ∧ ∃ UB X', Wy w0 w' base WB (M.acc 1 0 x) (r.set u (lockP UB (lk1 t (lokN (kw % 4294967296) x)))) j true t kw x { Z with i := 2, pb := (bitsN x : Int), pi := (bktN (kw % 4294967296) x : Int), uv := lockU UB } X' := by
  have hd := h.new (Below.refl _ _).drew
  have hx64 : x < 18446744073709551616 := by rw [hx]; exact h.look 0
  have HK := Lib.hid (And.intro ht (And.intro hk hx64))
  have HJU := Lib.hid hju; have HU := Lib.hid hu
  have c0 : w.cell? ⟨Z.B, 0, none⟩ = some (.slice (some ⟨Z.PB, 0, none⟩) 6 6) := h.c.1
  have c1 : w.cell? ⟨Z.B, 1, none⟩ = some (.int .i64 1) := by have := h.c.2.1; rw [hi] at this; exact this
  have p0 := h.pcell 1 (readV Z.TB) rfl
  have hm := m_rstep Z.TB
  have HST := Lib.hid (rstep_t hd hn hx (sP Z.B))
  have HI := Lib.hid hi
  have HS := Lib.hid hs
  clear h hd hi hs ht hk hx64 hju hu hn hx
  go_enter Tryz.func177, Tryz.ntmps177
  refine wp_scope_one rfl ?_
  go_upto_region 0 with (fail)
  go_still_tail 16, (by kernel_rfl)
  change wpList _ _ _ _ _ w.drew
  go_upto_region 1 with (go_at_call 315; refine HST.out.mono ?_; rintro e w1 ⟨rfl, X1, h1⟩; have H1 := Lib.hid h1; clear h1)
  clear c0 c1 p0 hm HST
  have c1 : w1.cell? ⟨Z.B, 1, none⟩ = some (.int .i64 1) := by have := H1.out.c.2.1; rw [HI.out] at this; exact this
  have f1 := (H1.out.fz 1).1
  go_wp2_with fail
  go_step3
  go_wp2_with fail
  have h2 := H1.out.put 1 (.int .i64 2) { Z with i := 2 } rfl rfl rfl rfl rfl
  have H2 := Lib.hid h2
  clear h2 c1 f1
  generalize w1.setCell ⟨Z.B, 1, none⟩ (.int .i64 2) = w2 at *
  refine wp_loop_rounds 1 ?_
  rw [rounds_succ]
  refine wp_seq (wp_seq ?_)
  have c0 : w2.cell? ⟨Z.B, 0, none⟩ = some (.slice (some ⟨Z.PB, 0, none⟩) 6 6) := H2.out.c.1
  have c1 : w2.cell? ⟨Z.B, 1, none⟩ = some (.int .i64 2) := H2.out.c.2.1
  go_upto_region 2 with (fail)
  go_quiet (fail)
  go_upto_region 4 with (fail)
  have H3 := Lib.hid (H2.out.new (below_n w2 nq))
  clear c0 c1
  generalize w2.drewN nq = w3 at *
  have c0 : w3.cell? ⟨Z.B, 0, none⟩ = some (.slice (some ⟨Z.PB, 0, none⟩) 6 6) := H3.out.c.1
  have c1 : w3.cell? ⟨Z.B, 1, none⟩ = some (.int .i64 2) := H3.out.c.2.1
  have p0 := H3.out.pcell 2 takeV rfl
  have hm := m_tbeg
  have HTB := Lib.hid (tbegin_any (H3.out.new (Below.refl _ _).drew) HJU.out HU.out HK.out.1 HK.out.2.1 HK.out.2.2)
  go_still_tail 15, (by kernel_rfl)
  change wpList _ _ _ _ _ w3.drew
  go_wp2_with (go_at_call 317; refine HTB.out.mono ?_; rintro e w4 ⟨rfl, UB, h4⟩; have H4 := Lib.hid h4; clear h4)
  (try simp only [to1])
  refine bodyPost_ret (results_none rfl _ _ _) rfl ?_
  exact ⟨rfl, UB, X1, H4.out⟩
theorem wstep_o3y (h : Wy w0 w base WB M r j true t kw tw Z X) (hi : Z.i = 2) (hs : Z.st = false) {K : Lk} (hju : j ≠ u) (hq : r[u]? = some (lockP U K)) (huv : Z.uv = lockU U) (ok : LkOk M K) (h6 : K.ln ≤ 6) (hov : (stepK M K).ln = 0) :
    Calls Tryz.prog 177 #[Pw Z.B, Pw WB] w fun e w' => e = .returned (.tuple #[]) ∧ ∃ X', Wy w0 w' base WB (stepM M K) (r.set u (lockP U (stepK M K))) j true t kw tw { Z with i := 3 } X' := by
  have hd := h.new (Below.refl _ _).drew
  have hst := steps_lock hd hju hq huv ok h6
  rw [decide_eq_true hov] at hst
  have c0 : w.cell? ⟨Z.B, 0, none⟩ = some (.slice (some ⟨Z.PB, 0, none⟩) 6 6) := h.c.1
  have c1 : w.cell? ⟨Z.B, 1, none⟩ = some (.int .i64 2) := by have := h.c.2.1; rw [hi] at this; exact this
  have p0 := h.pcell 2 takeV rfl
  have hm := m_tstep
  have HST := Lib.hid (hst)
  have HI := Lib.hid hi
  have HS := Lib.hid hs
  clear h hd hi hs hju hq huv ok h6 hov hst
  go_enter Tryz.func177, Tryz.ntmps177
  refine wp_scope_one rfl ?_
  go_upto_region 0 with (fail)
  go_still_tail 16, (by kernel_rfl)
  change wpList _ _ _ _ _ w.drew
  go_upto_region 1 with (go_at_call 316; refine HST.out.mono ?_; rintro e w1 ⟨rfl, X1, h1⟩; have H1 := Lib.hid h1; clear h1)
  clear c0 c1 p0 hm HST
  have c1 : w1.cell? ⟨Z.B, 1, none⟩ = some (.int .i64 2) := by have := H1.out.c.2.1; rw [HI.out] at this; exact this
  have f1 := (H1.out.fz 1).1
  go_wp2_with fail
  go_step3
  go_wp2_with fail
  have h2 := H1.out.put 1 (.int .i64 3) { Z with i := 3 } rfl rfl rfl rfl rfl
  have H2 := Lib.hid h2
  clear h2 c1 f1
  generalize w1.setCell ⟨Z.B, 1, none⟩ (.int .i64 3) = w2 at *
  refine wp_loop_rounds 1 ?_
  rw [rounds_succ]
  refine wp_seq (wp_seq ?_)
  have c0 : w2.cell? ⟨Z.B, 0, none⟩ = some (.slice (some ⟨Z.PB, 0, none⟩) 6 6) := H2.out.c.1
  have c1 : w2.cell? ⟨Z.B, 1, none⟩ = some (.int .i64 3) := H2.out.c.2.1
  go_upto_region 2 with (fail)
  go_quiet (fail)
  go_upto_region 4 with (fail)
  have H3 := Lib.hid (H2.out.new (below_n w2 nq))
  clear c0 c1
  generalize w2.drewN nq = w3 at *
  have c0 : w3.cell? ⟨Z.B, 0, none⟩ = some (.slice (some ⟨Z.PB, 0, none⟩) 6 6) := H3.out.c.1
  have c1 : w3.cell? ⟨Z.B, 1, none⟩ = some (.int .i64 3) := H3.out.c.2.1
  have p0 := H3.out.pcell 3 (askV Z.TB) rfl
  have hm := m_abeg Z.TB
  have c7 : w3.drew.cell? ⟨Z.B, 7, none⟩ = some (.bool false) := by have := (H3.out.new (Below.refl _ _).drew).c.2.2.2.2.2.2.2.1; rw [HS.out] at this; exact this
  have htb := abegin_any (Q := Z.TB) c7
  rw [show (!false) = true from rfl] at htb
  have HTB := Lib.hid htb
  clear c7 htb
  go_still_tail 15, (by kernel_rfl)
  change wpList _ _ _ _ _ w3.drew
  go_wp2_with (go_at_call 329; refine HTB.out.mono ?_; rintro e w4 ⟨rfl, hb4⟩; have H4 := Lib.hid (H3.out.new ((Below.refl _ _).drew.trans hb4)); clear hb4)
  (try simp only [to1])
  refine bodyPost_ret (results_none rfl _ _ _) rfl ?_
  exact ⟨rfl, X1, H4.out⟩
theorem wstep_o4n (h : Wy w0 w base WB M r j true t kw tw Z X) (hi : Z.i = 3) (hs : Z.st = false) (hju : j ≠ u) (hu : u < r.length) (hn : M.n ≤ 1000000000) {x : Nat} (hx : x = S2.look M.L 0) (hxe : x ≠ tw) {a : Nat} (ha : S10.lockZ Z.pb Z.pi = (a : Int)) :
    Calls Tryz.prog 177 #[Pw Z.B, Pw WB] w fun e w' => e = .returned (.tuple #[]) ∧ ∃ UB X', Wy w0 w' base WB (M.acc 1 0 x) (r.set u (freeP UB (fr0 a))) j true t kw tw { Z with st := true, i := 5, uv := freeU UB } X' := by
  have hd := h.new (Below.refl _ _).drew
  have HJU := Lib.hid hju; have HU := Lib.hid hu
  have HA := Lib.hid ha
  have c0 : w.cell? ⟨Z.B, 0, none⟩ = some (.slice (some ⟨Z.PB, 0, none⟩) 6 6) := h.c.1
  have c1 : w.cell? ⟨Z.B, 1, none⟩ = some (.int .i64 3) := by have := h.c.2.1; rw [hi] at this; exact this
  have p0 := h.pcell 3 (askV Z.TB) rfl
  have hm := m_astep Z.TB
  have HST := Lib.hid (astep_t hd hn hx (b := true) (by rw [decide_eq_false hxe]; rfl))
  have HI := Lib.hid hi
  have HS := Lib.hid hs
  clear h hd hi hs hju hu hn hx hxe ha
  go_enter Tryz.func177, Tryz.ntmps177
  refine wp_scope_one rfl ?_
  go_upto_region 0 with (fail)
  go_still_tail 16, (by kernel_rfl)
  change wpList _ _ _ _ _ w.drew
  go_upto_region 1 with (go_at_call 330; refine HST.out.mono ?_; rintro e w1 ⟨rfl, X1, h1⟩; have H1 := Lib.hid h1; clear h1)
  clear c0 c1 p0 hm HST
  have c1 : w1.cell? ⟨Z.B, 1, none⟩ = some (.int .i64 3) := by have := H1.out.c.2.1; rw [HI.out] at this; exact this
  have f1 := (H1.out.fz 1).1
  go_wp2_with fail
  go_step3
  go_wp2_with fail
  have h2 := H1.out.put 1 (.int .i64 4) { Z with st := true, i := 4 } rfl rfl rfl rfl rfl
  have H2 := Lib.hid h2
  clear h2 c1 f1
  generalize w1.setCell ⟨Z.B, 1, none⟩ (.int .i64 4) = w2 at *
  refine wp_loop_rounds 2 ?_
  rw [rounds_succ]
  refine wp_seq (wp_seq ?_)
  have c0 : w2.cell? ⟨Z.B, 0, none⟩ = some (.slice (some ⟨Z.PB, 0, none⟩) 6 6) := H2.out.c.1
  have c1 : w2.cell? ⟨Z.B, 1, none⟩ = some (.int .i64 4) := H2.out.c.2.1
  go_upto_region 2 with (fail)
  go_quiet (fail)
  go_upto_region 4 with (fail)
  have H3 := Lib.hid (H2.out.new (below_n w2 nq))
  clear c0 c1
  generalize w2.drewN nq = w3 at *
  have c0 : w3.cell? ⟨Z.B, 0, none⟩ = some (.slice (some ⟨Z.PB, 0, none⟩) 6 6) := H3.out.c.1
  have c1 : w3.cell? ⟨Z.B, 1, none⟩ = some (.int .i64 4) := H3.out.c.2.1
  have p0 := H3.out.pcell 4 (askV Z.KB) rfl
  have hm := m_abeg Z.KB
  have c7 : w3.drew.cell? ⟨Z.B, 7, none⟩ = some (.bool true) := by have := (H3.out.new (Below.refl _ _).drew).c.2.2.2.2.2.2.2.1; exact this
  have htb := abegin_any (Q := Z.KB) c7
  rw [show (!true) = false from rfl] at htb
  have HTB := Lib.hid htb
  clear c7 htb
  go_still_tail 15, (by kernel_rfl)
  change wpList _ _ _ _ _ w3.drew
  go_upto_region 3 with (go_at_call 329; refine HTB.out.mono ?_; rintro e w4 ⟨rfl, hb4⟩; have H4 := Lib.hid (H3.out.new ((Below.refl _ _).drew.trans hb4)); clear hb4)
  clear c0 c1 p0 hm HTB
  have c1 : w4.cell? ⟨Z.B, 1, none⟩ = some (.int .i64 4) := H4.out.c.2.1
  have f1 := (H4.out.fz 1).1
  go_wp2_with fail
  have h5 := H4.out.put 1 (.int .i64 5) { Z with st := true, i := 5 } rfl rfl rfl rfl rfl
  have H5 := Lib.hid h5
  clear h5 c1 f1
  generalize w4.setCell ⟨Z.B, 1, none⟩ (.int .i64 5) = w5 at *
  (try simp only [Exit.inBlock, Exit.then])
  rw [rounds_succ]
  refine wp_seq (wp_seq ?_)
  have c0 : w5.cell? ⟨Z.B, 0, none⟩ = some (.slice (some ⟨Z.PB, 0, none⟩) 6 6) := H5.out.c.1
  have c1 : w5.cell? ⟨Z.B, 1, none⟩ = some (.int .i64 5) := H5.out.c.2.1
  go_upto_region 2 with (fail)
  go_quiet (fail)
  go_upto_region 4 with (fail)
  have H6 := Lib.hid (H5.out.new (below_n w5 nq))
  clear c0 c1
  generalize w5.drewN nq = w6 at *
  have c0 : w6.cell? ⟨Z.B, 0, none⟩ = some (.slice (some ⟨Z.PB, 0, none⟩) 6 6) := H6.out.c.1
  have c1 : w6.cell? ⟨Z.B, 1, none⟩ = some (.int .i64 5) := H6.out.c.2.1
  have p0 := H6.out.pcell 5 leaveV rfl
  have hm := m_lbeg
  have HTB := Lib.hid (lbegin_yes (H6.out.new (Below.refl _ _).drew) HJU.out HU.out rfl HA.out)
  go_still_tail 15, (by kernel_rfl)
  change wpList _ _ _ _ _ w6.drew
  go_wp2_with (go_at_call 331; refine HTB.out.mono ?_; rintro e w7 ⟨rfl, UB, h7⟩; have H7 := Lib.hid h7; clear h7)
  (try simp only [to1])
  refine bodyPost_ret (results_none rfl _ _ _) rfl ?_
  exact ⟨rfl, UB, X1, H7.out⟩
theorem wstep_e6y (h : Wy w0 w base WB M r j false t kw tw Z X) (hi : Z.i = 3) (hs : Z.st = true) {K : Fr} (hju : j ≠ u) (hq : r[u]? = some (freeP U K)) (huv : Z.uv = freeU U) (ok : FrOk M K) (h7 : K.ln ≤ 7) (hov : (fstepK M K).ln = 0) :
    Calls Tryz.prog 177 #[Pw Z.B, Pw WB] w fun e w' => e = .returned (.tuple #[]) ∧ ∃ X', Wy w0 w' base WB (fstepM M K) (r.set u (freeP U (fstepK M K))) j false t kw tw { Z with i := 0, st := false } X' := by
  have hd := h.new (Below.refl _ _).drew
  have hst := steps_free hd hju hq huv ok h7
  rw [decide_eq_true hov] at hst
  have c0 : w.cell? ⟨Z.B, 0, none⟩ = some (.slice (some ⟨Z.PB, 0, none⟩) 4 4) := h.c.1
  have c1 : w.cell? ⟨Z.B, 1, none⟩ = some (.int .i64 3) := by have := h.c.2.1; rw [hi] at this; exact this
  have p0 := h.pcell 3 leaveV rfl
  have hm := m_lstep
  have HST := Lib.hid (hst)
  have HI := Lib.hid hi
  have HS := Lib.hid hs
  clear h hd hi hs hju hq huv ok h7 hov hst
  go_enter Tryz.func177, Tryz.ntmps177
  refine wp_scope_one rfl ?_
  go_upto_region 0 with (fail)
  go_still_tail 16, (by kernel_rfl)
  change wpList _ _ _ _ _ w.drew
  go_upto_region 1 with (go_at_call 316; refine HST.out.mono ?_; rintro e w1 ⟨rfl, X1, h1⟩; have H1 := Lib.hid h1; clear h1)
  clear c0 c1 p0 hm HST
  have c1 : w1.cell? ⟨Z.B, 1, none⟩ = some (.int .i64 3) := by have := H1.out.c.2.1; rw [HI.out] at this; exact this
  have f1 := (H1.out.fz 1).1
  go_wp2_with fail
  go_step3
  go_wp2_with fail
  have h2 := H1.out.put 1 (.int .i64 4) { Z with i := 4 } rfl rfl rfl rfl rfl
  have H2 := Lib.hid h2
  clear h2 c1 f1
  generalize w1.setCell ⟨Z.B, 1, none⟩ (.int .i64 4) = w2 at *
  refine wp_loop_rounds 1 ?_
  rw [rounds_succ]
  refine wp_seq (wp_seq ?_)
  have c0 : w2.cell? ⟨Z.B, 0, none⟩ = some (.slice (some ⟨Z.PB, 0, none⟩) 4 4) := H2.out.c.1
  have c1 : w2.cell? ⟨Z.B, 1, none⟩ = some (.int .i64 4) := H2.out.c.2.1
  go_upto_region 2 with (fail)
  go_quiet (fail)
  go_upto_region 5 with (fail)
  have H3 := Lib.hid (H2.out.new (below_n w2 nq))
  clear c0 c1
  generalize w2.drewN nq = w3 at *
  have c7 : w3.cell? ⟨Z.B, 7, none⟩ = some (.bool true) := by have := H3.out.c.2.2.2.2.2.2.2.1; rw [HS.out] at this; exact this
  have f7 := (H3.out.fz 7).1
  go_upto_region 7 with (fail)
  have h4 := H3.out.put 7 (.bool false) { Z with i := 4, st := false } rfl rfl rfl rfl rfl
  have H4 := Lib.hid h4
  clear h4 c7 f7
  generalize w3.setCell ⟨Z.B, 7, none⟩ (.bool false) = w4 at *
  have c1 : w4.cell? ⟨Z.B, 1, none⟩ = some (.int .i64 4) := H4.out.c.2.1
  have f1 := (H4.out.fz 1).1
  go_wp2_with fail
  have h5 := H4.out.put 1 (.int .i64 (-1)) { Z with i := -1, st := false } rfl rfl rfl rfl rfl
  have H5 := Lib.hid h5
  clear h5 c1 f1
  generalize w4.setCell ⟨Z.B, 1, none⟩ (.int .i64 (-1)) = w5 at *
  go_step3
  refine ⟨rfl, ?_⟩
  show Code.wp _ _ _ _ _
  have c1 : w5.cell? ⟨Z.B, 1, none⟩ = some (.int .i64 (-1)) := H5.out.c.2.1
  have f1 := (H5.out.fz 1).1
  go_wp2_with fail
  have h6 := H5.out.put 1 (.int .i64 0) { Z with i := 0, st := false } rfl rfl rfl rfl rfl
  have H6 := Lib.hid h6
  clear h6 c1 f1
  generalize w5.setCell ⟨Z.B, 1, none⟩ (.int .i64 0) = w6 at *
  refine wp_loop_rounds 1 ?_
  rw [rounds_succ]
  refine wp_seq (wp_seq ?_)
  have c0 : w6.cell? ⟨Z.B, 0, none⟩ = some (.slice (some ⟨Z.PB, 0, none⟩) 4 4) := H6.out.c.1
  have c1 : w6.cell? ⟨Z.B, 1, none⟩ = some (.int .i64 0) := H6.out.c.2.1
  go_upto_region 2 with (fail)
  go_quiet (fail)
  go_upto_region 4 with (fail)
  have H7 := Lib.hid (H6.out.new (below_n w6 nq))
  clear c0 c1
  generalize w6.drewN nq = w7 at *
  have c0 : w7.cell? ⟨Z.B, 0, none⟩ = some (.slice (some ⟨Z.PB, 0, none⟩) 4 4) := H7.out.c.1
  have c1 : w7.cell? ⟨Z.B, 1, none⟩ = some (.int .i64 0) := H7.out.c.2.1
  have p0 := H7.out.pcell 0 (readV Z.TB) rfl
  have hm := m_rbeg Z.TB
  have HTB := Lib.hid (fun W => rbegin_any (Pw Z.TB) (sP Z.B) ⟨_, rfl⟩ W)
  go_still_tail 15, (by kernel_rfl)
  change wpList _ _ _ _ _ w7.drew
  go_wp2_with (go_at_call 314; refine (HTB.out _).mono ?_; rintro e w8 ⟨rfl, hb8⟩; have H8 := Lib.hid (H7.out.new ((Below.refl _ _).drew.trans hb8)); clear hb8)
  (try simp only [Exit.noGoto])
  refine bodyPost_ret (results_none rfl _ _ _) rfl ?_
  exact ⟨rfl, X1, H8.out⟩
end
end Go.Proofs.YtieiiabbeglmfaaGreatDoor.S15
