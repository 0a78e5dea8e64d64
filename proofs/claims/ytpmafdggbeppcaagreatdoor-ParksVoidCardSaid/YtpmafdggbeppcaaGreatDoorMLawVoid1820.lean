/- Texts of this seat, one behind the other. -/
import Derived.Test.YtpmafdggbeppcaaGreatDoorMLawVoid184
import Derived.Test.YtpmafdggbeppcaaGreatDoorMLawVoid1819
set_option linter.unusedVariables false
set_option linter.unusedSimpArgs false
set_option linter.unusedVariables false
set_option linter.unusedSimpArgs false
namespace Go.Proofs.YtpmafdggbeppcaaGreatDoor.S15
set_option maxRecDepth 100000
set_option maxHeartbeats 16000000
open Go.Proofs.YtpmafdggbeppcaaGreatDoor Go.Proofs.YtpmafdggbeppcaaGreatDoor.S11 Go.Proofs.YtpmafdggbeppcaaGreatDoor.S12 Go.Proofs.YtpmafdggbeppcaaGreatDoor.S13 Go.Proofs.YtpmafdggbeppcaaGreatDoor.S14
open Go.RowKit
section
variable {w0 w w' : World} {base WB : Nat} {M : Sd} {r : List Part} {j u U : Nat} {o : Bool} {t kw tw : Nat} {Z : Wb} {X : Wm}
theorem wover_any (h : Wy w0 w base WB M r j o t kw tw Z X) : Calls Tryz.prog 140 #[Pw Z.B] w fun e w' => e = .returned (.bool (decide ((nPart o : Int) ≤ Z.i))) ∧ Below w.heap.size w w' := by
  have c0 := h.c.1; have c1 := h.c.2.1
  generalize Z.i = i at *
  generalize nPart o = n at *
  clear h
  by_cases g : (n : Int) ≤ i
  · rw [decide_eq_true g]
    have d1 : decide ((n : Int) ≤ i) = true := decide_eq_true g
    go_enter Tryz.func140, Tryz.ntmps140
    go_upto_region 1 with (fail)
    go_quiet (fail)
    go_wp2_with fail
    go_ret
    exact ⟨rfl, below_n _ _⟩
  · rw [decide_eq_false g]
    have d1 : decide ((n : Int) ≤ i) = false := decide_eq_false g
    go_enter Tryz.func140, Tryz.ntmps140
    go_upto_region 1 with (fail)
    go_quiet (fail)
    go_wp2_with fail
    go_ret
    exact ⟨rfl, below_n _ _⟩
theorem eover_any (h : Wy w0 w base WB M r j o t kw tw Z X) : Calls Tryz.prog 251 #[Pw Z.B] w fun e w' => e = .returned (.bool (decide ((nPart o : Int) ≤ Z.i))) ∧ Below w.heap.size w w' := by
  have HW := Lib.hid (wover_any h)
  clear h
  generalize decide ((nPart o : Int) ≤ Z.i) = b at *
  go_enter Tryz.func251, Tryz.ntmps251
  go_wp2_with (go_at_call 140; refine HW.out.mono ?_; rintro e w1 ⟨rfl, hb⟩)
  go_ret
  exact ⟨rfl, hb⟩
theorem Wy.turnLast {Q : Nat} {ob : Obj} (h : Wy w0 w base WB M (r ++ [blockP Q ob]) j o t kw tw Z X) (hj : j < r.length) (ob' : Obj) (hq : w'.heap[Q]? = some ob') (tn : Turns (fun k => k = Q) w w') : Wy w0 w' base WB M (r ++ [blockP Q ob']) j o t kw tw Z X := by
  have hi : ((r ++ [blockP Q ob]).set j (wayP o t kw tw Z))[r.length]? = some (blockP Q ob) := by
    rw [List.set_append_left _ _ hj, List.getElem?_append_right (by rw [List.length_set]; exact Nat.le_refl _), List.length_set, Nat.sub_self]; rfl
  have h2 := h.pg.turn hi (blockP Q ob') hq tn (fun k e => .inl e)
  rw [List.set_append_left _ _ hj] at h2
  rw [List.set_append_right _ _ (by rw [List.length_set]; exact Nat.le_refl _), List.length_set, Nat.sub_self] at h2
  refine ⟨?_, by rw [List.length_append]; simp; omega⟩
  rw [List.set_append_left _ _ hj]
  exact h2
theorem below_turn {w w1 w2 w3 : World} {Q : Nat} (h1 : Below w.heap.size w w1) (h2 : Below w1.heap.size w1 w2) (ht : Turns (fun k => k = Q) w2 w3) (hQ : Q = w.heap.size) : Below w.heap.size w w3 := by
  have hb := h1.trans (h2.mono h1.size)
  exact hb.trans (ht.below hb.size (fun k hk e => by have h1 : k = Q := e; omega))
abbrev plV (b i : Int) : Value := .agg #[.int .i64 b, .int .i64 i]
theorem wgot_yes (h : Wy w0 w base WB M r j o t kw tw Z X) (hi : (nPart o : Int) ≤ Z.i) : Calls Tryz.prog 128 #[Pw Z.B] w fun e w' => e = .returned (.tuple #[plV Z.pb Z.pi, .int .u32 ((kw % 4294967296 : Nat) : Int)]) ∧ Below w.heap.size w w' := by
  have hj := h.hj
  have HB := Lib.hid (below1 w (.cells #[.int .i64 0, .int .i64 0] 45))
  have hA := h.pushB (.cells #[.int .i64 0, .int .i64 0] 45)
  have hov := fun (W : World) (hb : Below w.heap.size w W) => wover_any (h.new hb)
  rw [decide_eq_true hi] at hov
  have hov1 := hov _ (below1 w (.cells #[.int .i64 0, .int .i64 0] 45))
  obtain ⟨Q, hQ⟩ : ∃ Q, Q = w.heap.size := ⟨_, rfl⟩
  rw [← hQ] at hA
  obtain ⟨b, hb⟩ : ∃ b, b = Z.pb := ⟨_, rfl⟩
  obtain ⟨i, hpi⟩ : ∃ i, i = Z.pi := ⟨_, rfl⟩
  have ew : IntKind.u32.wrap (kw : Int) = ((kw % 4294967296 : Nat) : Int) := by rw [IntKind.wrap_u32]; omega
  have c3 := hA.c.2.2.2.1
  have HOV := Lib.hid hov1; have HA := Lib.hid hA; have HJ := Lib.hid hj; have HBI := Lib.hid (And.intro hb hpi); have HQ := Lib.hid hQ
  rw [← hb, ← hpi]
  obtain ⟨ky, hky⟩ : ∃ ky, ky = kw % 4294967296 := ⟨_, rfl⟩
  rw [← hky] at ew ⊢
  clear h hov hov1 hi hj hA hQ hb hpi hky
  go_enter Tryz.func128, Tryz.ntmps128
  go_upto_region 1 with (fail)
  rw [← HQ.out]
  generalize w.alloc (.cells #[.int .i64 0, .int .i64 0] 45) = w1 at *
  go_upto_region 3 with (go_at_call 140; refine HOV.out.mono ?_; rintro e w2 ⟨rfl, hb2⟩; have H2 := Lib.hid (HA.out.new hb2); have HB2 := Lib.hid hb2; have c3 := (HA.out.new hb2).c.2.2.2.1; clear hb2)
  clear c3
  refine wp_region_held_drew (S := fun w' => w'.cell? ⟨Z.B, 5, none⟩ = some (.int .i64 b) ∧ w'.cell? ⟨Z.B, 6, none⟩ = some (.int .i64 i) ∧ w'.cell? ⟨Z.B, 3, none⟩ = some (Pw Z.KB) ∧ w'.cell? ⟨Z.KB, 2, none⟩ = some (.int .u64 (kw : Int))) (by kernel_rfl) ?_ (fun hHeld => ?_)
  · exact ⟨by rw [HBI.out.1]; exact (H2.out.new (Below.refl _ _).drew).c.2.2.2.2.2.1, by rw [HBI.out.2]; exact (H2.out.new (Below.refl _ _).drew).c.2.2.2.2.2.2.1, (H2.out.new (Below.refl _ _).drew).c.2.2.2.1, (H2.out.new (Below.refl _ _).drew).kc.2⟩
  refine tA 0 ⟨some 16, .move (.tmp 0), 299, "parts.go:68", #[], none⟩ ?vgm1 ?rgm1
  (try simp only [Act.put, tC, tD, tE])
  refine tA 1 ⟨some 17, .nilCheck (.tmp 16), 0, "parts.go:68", #[⟨0, .data⟩], none⟩ ?vgm2 ?rgm2
  (try simp only [Act.put, tC, tD, tE])
  refine tA 2 ⟨some 18, .fieldAddr 277 (.tmp 17) 2, 0, "parts.go:68", #[⟨1, .data⟩], none⟩ ?vgm3 ?rgm3
  (try simp only [Act.put, tC, tD, tE])
  refine tA 3 ⟨some 19, .fieldAddr 275 (.tmp 18) 3, 0, "parts.go:68", #[⟨2, .data⟩], none⟩ ?vgm4 ?rgm4
  (try simp only [Act.put, tC, tD, tE])
  refine tA 4 ⟨some 20, .load 45 (.tmp 19), 45, "parts.go:68", #[⟨3, .data⟩], none⟩ ?vgm5 ?rgm5
  (try simp only [Act.put, tC, tD, tE])
  refine tA 5 ⟨some 21, .move (.tmp 0), 299, "parts.go:68", #[⟨14, .gcOnly .lateStores⟩], none⟩ ?vgm6 ?rgm6
  (try simp only [Act.put, tC, tD, tE])
  refine tA 6 ⟨some 22, .nilCheck (.tmp 21), 0, "parts.go:68", #[⟨5, .data⟩, ⟨14, .gcOnly .lateStores⟩], none⟩ ?vgm7 ?rgm7
  (try simp only [Act.put, tC, tD, tE])
  refine tA 7 ⟨some 23, .fieldAddr 277 (.tmp 22) 2, 0, "parts.go:68", #[⟨6, .data⟩, ⟨14, .gcOnly .lateStores⟩], none⟩ ?vgm8 ?rgm8
  (try simp only [Act.put, tC, tD, tE])
  refine tA 8 ⟨some 24, .fieldAddr 275 (.tmp 23) 1, 0, "parts.go:68", #[⟨7, .data⟩, ⟨14, .gcOnly .lateStores⟩], none⟩ ?vgm9 ?rgm9
  (try simp only [Act.put, tC, tD, tE])
  refine tA 9 ⟨some 25, .load 271 (.tmp 24), 271, "parts.go:68", #[⟨8, .data⟩, ⟨14, .gcOnly .lateStores⟩], none⟩ ?vgm10 ?rgm10
  (try simp only [Act.put, tC, tD, tE])
  refine tA 10 ⟨some 26, .nilCheck (.tmp 25), 0, "parts.go:68", #[⟨9, .data⟩, ⟨14, .gcOnly .lateStores⟩], none⟩ ?vgm11 ?rgm11
  (try simp only [Act.put, tC, tD, tE])
  refine tA 11 ⟨some 27, .fieldAddr 281 (.tmp 26) 2, 0, "parts.go:68", #[⟨10, .data⟩, ⟨14, .gcOnly .lateStores⟩], none⟩ ?vgm12 ?rgm12
  (try simp only [Act.put, tC, tD, tE])
  refine tA 12 ⟨some 28, .load 29 (.tmp 27), 29, "parts.go:68", #[⟨11, .data⟩, ⟨14, .gcOnly .lateStores⟩], none⟩ ?vgm13 ?rgm13
  (try simp only [Act.put, tC, tD, tE])
  refine tA 13 ⟨some 29, .convert 29 23 (.tmp 28), 23, "parts.go:68", #[⟨12, .data⟩, ⟨14, .gcOnly .lateStores⟩], none⟩ ?vgm14 ?rgm14
  (try simp only [Act.put, tC, tD, tE])
  refine wpAnyH_ready (rs := [14]) (by kernel_rfl) (by simp) ?_
  refine AllReadyH.cons (o := ⟨none, .store 45 (.tmp 2) (.tmp 20), 0, "parts.go:68", #[⟨4, .data⟩, ⟨0, .phase⟩, ⟨1, .phase⟩, ⟨2, .phase⟩, ⟨3, .phase⟩, ⟨4, .phase⟩, ⟨5, .textOnly .lateStores⟩, ⟨6, .textOnly .lateStores⟩, ⟨7, .textOnly .lateStores⟩, ⟨8, .textOnly .lateStores⟩, ⟨9, .textOnly .lateStores⟩, ⟨10, .textOnly .lateStores⟩, ⟨11, .textOnly .lateStores⟩, ⟨12, .textOnly .lateStores⟩, ⟨13, .textOnly .lateStores⟩], none⟩) rfl (fun Kq hKq => ?_) AllReadyH.nil
  (have q0 : w2.cell? ⟨Q, 0, none⟩ = some (.int .i64 0) := cell_row (H2.out.last HJ.out) 0; have q1 : w2.cell? ⟨Q, 1, none⟩ = some (.int .i64 0) := cell_row (H2.out.last HJ.out) 1; have z0 := froz_row (H2.out.last HJ.out) 0; have z1 := froz_row (H2.out.last HJ.out) 1; go_simp; have h3 := H2.out.turnLast HJ.out (.cells #[.int .i64 b, .int .i64 i] 45) (set_blk (set_blk (H2.out.last HJ.out) 0 (.int .i64 b) _ rfl) 1 (.int .i64 i) _ rfl) (((Turns.refl (fun k => k = Q) w2).setCell ⟨Q, 0, none⟩ _ rfl).setCell ⟨Q, 1, none⟩ _ rfl); have H3 := Lib.hid (h3.new (Below.refl _ _).drew); have HT := Lib.hid (((Turns.refl (fun k => k = Q) w2).setCell ⟨Q, 0, none⟩ (.int .i64 b) rfl).setCell ⟨Q, 1, none⟩ (.int .i64 i) rfl); clear q0 q1 z0 z1 h3; generalize (w2.setCell ⟨Q, 0, none⟩ (.int .i64 b)).setCell ⟨Q, 1, none⟩ (.int .i64 i) = w3 at *)
  refine hKq.out _ _ ?_ (fun hHeld => ?_)
  · exact ⟨by rw [HBI.out.1]; exact H3.out.c.2.2.2.2.2.1, by rw [HBI.out.2]; exact H3.out.c.2.2.2.2.2.2.1, H3.out.c.2.2.2.1, H3.out.kc.2⟩
  clear hKq Kq
  (try simp only [Act.put, tC, tD, tE])
  refine tA 15 ⟨some 3, .assign (.tmp 29), 23, "parts.go:68", #[⟨13, .data⟩, ⟨14, .chain⟩, ⟨0, .phase⟩, ⟨1, .phase⟩, ⟨2, .phase⟩, ⟨3, .phase⟩, ⟨4, .phase⟩, ⟨5, .phase⟩, ⟨6, .phase⟩, ⟨7, .phase⟩, ⟨8, .phase⟩, ⟨9, .phase⟩, ⟨10, .phase⟩, ⟨11, .phase⟩, ⟨12, .phase⟩, ⟨13, .phase⟩, ⟨14, .phase⟩], none⟩ ?vgm15 ?rgm15
  (try simp only [Act.put, tC, tD, tE])
  refine wpAnyH_done (by kernel_rfl) ?_ _
  have q0 : w3.cell? ⟨Q, 0, none⟩ = some (.int .i64 b) := cell_row (H3.out.last HJ.out) 0
  have q1 : w3.cell? ⟨Q, 1, none⟩ = some (.int .i64 i) := cell_row (H3.out.last HJ.out) 1
  clear hHeld HOV HA H2 HBI
  go_wp2_with fail
  exact bodyPost_ret (v := .tuple #[plV b i, .int .u32 (ky : Int)]) (by simp [results, Tryz.results128, go_sem, q0, q1]) rfl ⟨rfl, (below_turn HB.out HB2.out HT.out HQ.out).trans (Below.refl _ _).drew⟩
theorem wgot_no (h : Wy w0 w base WB M r j o t kw tw Z X) (hi : ¬ (nPart o : Int) ≤ Z.i) : Calls Tryz.prog 128 #[Pw Z.B] w fun e w' => e = .returned (.tuple #[plV 0 0, .int .u32 0]) ∧ Below w.heap.size w w' := by
  have hov := fun (W : World) (hb : Below w.heap.size w W) => wover_any (h.new hb)
  rw [decide_eq_false hi] at hov
  have hov1 := hov _ (below1 w (.cells #[.int .i64 0, .int .i64 0] 45))
  obtain ⟨Q, hQ⟩ : ∃ Q, Q = w.heap.size := ⟨_, rfl⟩
  have ha := heap_alloc_new w (.cells #[.int .i64 0, .int .i64 0] 45)
  rw [← hQ] at ha
  have HOV := Lib.hid hov1; have HQ := Lib.hid hQ; have HA := Lib.hid ha
  have HB := Lib.hid (below1 w (.cells #[.int .i64 0, .int .i64 0] 45))
  clear h hov hov1 hi hQ ha
  go_enter Tryz.func128, Tryz.ntmps128
  go_upto_region 1 with (fail)
  rw [← HQ.out]
  generalize w.alloc (.cells #[.int .i64 0, .int .i64 0] 45) = w1 at *
  go_upto_region 2 with (go_at_call 140; refine HOV.out.mono ?_; rintro e w2 ⟨rfl, hb2⟩; have HB2 := Lib.hid hb2; clear hb2)
  have l1 : w2.heap[Q]? = some (.cells #[.int .i64 0, .int .i64 0] 45) := by rw [HB2.out.block Q (heap_lt HA.out)]; exact HA.out
  have q0 : w2.cell? ⟨Q, 0, none⟩ = some (.int .i64 0) := cell_row l1 0
  have q1 : w2.cell? ⟨Q, 1, none⟩ = some (.int .i64 0) := cell_row l1 1
  have z0 := froz_row l1 0; have z1 := froz_row l1 1
  have L1 := Lib.hid l1
  clear l1
  go_wp2_with fail
  have l2 : ((w2.setCell ⟨Q, 0, none⟩ (.int .i64 0)).setCell ⟨Q, 1, none⟩ (.int .i64 0)).heap[Q]? = some (.cells #[.int .i64 0, .int .i64 0] 45) := set_blk (set_blk L1.out 0 (.int .i64 0) _ rfl) 1 (.int .i64 0) _ rfl
  have t : Turns (fun k => k = Q) w2 ((w2.setCell ⟨Q, 0, none⟩ (.int .i64 0)).setCell ⟨Q, 1, none⟩ (.int .i64 0)) := ((Turns.refl (fun k => k = Q) w2).setCell ⟨Q, 0, none⟩ _ rfl).setCell ⟨Q, 1, none⟩ _ rfl
  generalize (w2.setCell ⟨Q, 0, none⟩ (.int .i64 0)).setCell ⟨Q, 1, none⟩ (.int .i64 0) = w3 at *
  have p0 : w3.cell? ⟨Q, 0, none⟩ = some (.int .i64 0) := cell_row l2 0
  have p1 : w3.cell? ⟨Q, 1, none⟩ = some (.int .i64 0) := cell_row l2 1
  clear q0 q1 z0 z1 l2
  refine bodyPost_ret (v := .tuple #[plV 0 0, .int .u32 0]) (by simp [results, Tryz.results128, go_sem, p0, p1]) rfl ⟨rfl, ?_⟩
  have hb := HB.out.trans (HB2.out.mono HB.out.size)
  exact hb.trans (t.below hb.size (fun k hk e => by have h1 : k = Q := e; have h2 := HQ.out; omega))
theorem egot_yes (h : Wy w0 w base WB M r j o t kw tw Z X) (hi : (nPart o : Int) ≤ Z.i) : Calls Tryz.prog 97 #[Pw Z.B] w fun e w' => e = .returned (plV Z.pb Z.pi) ∧ Below w.heap.size w w' := by
  have hg := wgot_yes (h.new (below1 w (.cells #[.int .i64 0, .int .i64 0] 45))) hi
  obtain ⟨Q, hQ⟩ : ∃ Q, Q = w.heap.size := ⟨_, rfl⟩
  have ha := heap_alloc_new w (.cells #[.int .i64 0, .int .i64 0] 45)
  rw [← hQ] at ha
  obtain ⟨b, hb⟩ : ∃ b, b = Z.pb := ⟨_, rfl⟩
  obtain ⟨i, hpi⟩ : ∃ i, i = Z.pi := ⟨_, rfl⟩
  obtain ⟨ky, hky⟩ : ∃ ky, ky = kw % 4294967296 := ⟨_, rfl⟩
  rw [← hb, ← hpi, ← hky] at hg
  rw [← hb, ← hpi]
  have HG := Lib.hid hg; have HQ := Lib.hid hQ; have HA := Lib.hid ha; have HB := Lib.hid (below1 w (.cells #[.int .i64 0, .int .i64 0] 45))
  clear h hg hi hQ ha hb hpi hky
  go_enter Tryz.func97, Tryz.ntmps97
  go_upto_region 1 with (fail)
  rw [← HQ.out]
  generalize w.alloc (.cells #[.int .i64 0, .int .i64 0] 45) = w1 at *
  go_upto_region 3 with (fail)
  go_upto_region 4 with (go_at_call 128; refine HG.out.mono ?_; rintro e w2 ⟨rfl, hb2⟩; have HB2 := Lib.hid hb2; clear hb2)
  have hb3 : Below w1.heap.size w1 (w2.alloc (.cells #[.int .i64 b, .int .i64 i] 45)) := HB2.out.trans ((below1 w2 (.cells #[.int .i64 b, .int .i64 i] 45)).mono HB2.out.size)
  have l3 := heap_alloc_new w2 (.cells #[.int .i64 b, .int .i64 i] 45)
  obtain ⟨N2, hN2⟩ : ∃ N2, N2 = w2.heap.size := ⟨_, rfl⟩
  rw [← hN2] at l3 ⊢
  have l1 : (w2.alloc (.cells #[.int .i64 b, .int .i64 i] 45)).heap[Q]? = some (.cells #[.int .i64 0, .int .i64 0] 45) := by rw [hb3.block Q (heap_lt HA.out)]; exact HA.out
  have HB3 := Lib.hid hb3
  clear hb3 hN2
  generalize w2.alloc (.cells #[.int .i64 b, .int .i64 i] 45) = w3 at *
  have n0 : w3.cell? ⟨N2, 0, none⟩ = some (.int .i64 b) := cell_row l3 0
  have n1 : w3.cell? ⟨N2, 1, none⟩ = some (.int .i64 i) := cell_row l3 1
  have q0 : w3.cell? ⟨Q, 0, none⟩ = some (.int .i64 0) := cell_row l1 0
  have q1 : w3.cell? ⟨Q, 1, none⟩ = some (.int .i64 0) := cell_row l1 1
  have z0 := froz_row l1 0; have z1 := froz_row l1 1
  have L1 := Lib.hid l1
  clear l1 l3
  go_wp2_with fail
  have l2 : ((w3.setCell ⟨Q, 0, none⟩ (.int .i64 b)).setCell ⟨Q, 1, none⟩ (.int .i64 i)).heap[Q]? = some (.cells #[.int .i64 b, .int .i64 i] 45) := set_blk (set_blk L1.out 0 (.int .i64 b) _ rfl) 1 (.int .i64 i) _ rfl
  have t : Turns (fun k => k = Q) w3 ((w3.setCell ⟨Q, 0, none⟩ (.int .i64 b)).setCell ⟨Q, 1, none⟩ (.int .i64 i)) := ((Turns.refl (fun k => k = Q) w3).setCell ⟨Q, 0, none⟩ _ rfl).setCell ⟨Q, 1, none⟩ _ rfl
  generalize (w3.setCell ⟨Q, 0, none⟩ (.int .i64 b)).setCell ⟨Q, 1, none⟩ (.int .i64 i) = w4 at *
  have p0 : w4.cell? ⟨Q, 0, none⟩ = some (.int .i64 b) := cell_row l2 0
  have p1 : w4.cell? ⟨Q, 1, none⟩ = some (.int .i64 i) := cell_row l2 1
  clear q0 q1 z0 z1 l2 n0 n1 L1
  exact bodyPost_ret (v := plV b i) (by simp [results, Tryz.results97, go_sem, p0, p1]) rfl ⟨rfl, below_turn HB.out HB3.out t HQ.out⟩
end
end Go.Proofs.YtpmafdggbeppcaaGreatDoor.S15
set_option linter.unusedVariables false
set_option linter.unusedSimpArgs false
namespace Go.Proofs.YtpmafdggbeppcaaGreatDoor.S15
open Go.Proofs.YtpmafdggbeppcaaGreatDoor Go.Proofs.YtpmafdggbeppcaaGreatDoor.S11 Go.Proofs.YtpmafdggbeppcaaGreatDoor.S12 Go.Proofs.YtpmafdggbeppcaaGreatDoor.S13 Go.Proofs.YtpmafdggbeppcaaGreatDoor.S14
open Go.RowKit
structure Ew (w0 w : World) (base WB : Nat) (M : Sd) (r : List Part) (j u : Nat) (E : En) (Z : Wb) (X : Wm) : Prop where
  wy : Wy w0 w base WB M r j E.ow E.t E.kw E.tw Z X
  ju : j ≠ u
  hu : u < r.length
  i : Z.i = (E.at : Int)
  st : Z.st = decide (E.ln = 6)
  k : E.ln = 3 → ∃ U, r[u]? = some (lockP U E.K) ∧ Z.uv = lockU U
  f : E.ln = 6 → ∃ U, r[u]? = some (freeP U E.F) ∧ Z.uv = freeU U
  pl : 3 ≤ E.ln ∨ E.ln = 0 → Z.pb = (bitsN E.tw : Int) ∧ Z.pi = (bktN (E.kw % 4294967296) E.tw : Int)
def EStep (w0 w' : World) (base WB : Nat) (M : Sd) (r : List Part) (j u : Nat) (E : En) (Z : Wb) : Prop :=
  ∃ (q : Part) (Z' : Wb) (X' : Wm), Z'.B = Z.B ∧ Z'.PB = Z.PB ∧ Z'.KB = Z.KB ∧ Z'.TB = Z.TB ∧ Ew w0 w' base WB (enM M E) (r.set u q) j u (enE M E) Z' X'
section
variable {w0 w' : World} {base WB : Nat} {M : Sd} {r : List Part} {j u : Nat} {E E1 : En} {Z Z' : Wb} {X' : Wm} {q : Part}
theorem EStep.mk' (e : enE M E = E1) (h' : Ew w0 w' base WB (enM M E) (r.set u q) j u E1 Z' X') (s : Z'.B = Z.B ∧ Z'.PB = Z.PB ∧ Z'.KB = Z.KB ∧ Z'.TB = Z.TB) : EStep w0 w' base WB M r j u E Z := by
  subst e
  exact ⟨q, Z', X', s.1, s.2.1, s.2.2.1, s.2.2.2, h'⟩
theorem EStep.mk0 (e : enE M E = E1) (h' : Ew w0 w' base WB (enM M E) r j u E1 Z' X') (s : Z'.B = Z.B ∧ Z'.PB = Z.PB ∧ Z'.KB = Z.KB ∧ Z'.TB = Z.TB) : EStep w0 w' base WB M r j u E Z := by
  subst e
  refine ⟨r[u]'h'.hu, Z', X', s.1, s.2.1, s.2.2.1, s.2.2.2, ?_⟩
  rw [set_eq (List.getElem?_eq_getElem h'.hu)]
  exact h'
end
theorem stepK_ok {M : Sd} {K : Lk} (hs : K.st < 18446744073709551616) (hp : 0 ≤ K.sp ∧ K.sp ≤ 16) (ms : 0 ≤ M.sp ∧ M.sp ≤ 16) (hl : S2.look M.L K.a < 18446744073709551616) :
    (stepK M K).t = K.t ∧ (stepK M K).a = K.a ∧ (stepK M K).st < 18446744073709551616 ∧ 0 ≤ (stepK M K).sp ∧ (stepK M K).sp ≤ 16 := by
  have turn : ∀ (K' : Lk) (x : Nat), K'.t = K.t → K'.a = K.a → x < 18446744073709551616 → 0 ≤ K'.sp → K'.sp ≤ 16 → (K'.turn x).t = K.t ∧ (K'.turn x).a = K.a ∧ (K'.turn x).st < 18446744073709551616 ∧ 0 ≤ (K'.turn x).sp ∧ (K'.turn x).sp ≤ 16 := fun K' x e1 e2 hx h1 h2 => by
    unfold Lk.turn
    split
    · exact ⟨e1, e2, hx, h1, h2⟩
    · split
      · split
        · refine ⟨e1, e2, hx, ?_, ?_⟩
          · show 0 ≤ K'.sp - 1; omega
          · show K'.sp - 1 ≤ 16; omega
        · exact ⟨e1, e2, hx, h1, h2⟩
      · exact ⟨e1, e2, hx, h1, h2⟩
  unfold stepK
  split
  · unfold Lk.cas
    split
    · exact ⟨rfl, rfl, hs, ms.1, ms.2⟩
    · exact turn _ _ rfl rfl hl ms.1 ms.2
  · unfold Lk.cas
    split
    · exact ⟨rfl, rfl, hs, hp.1, hp.2⟩
    · exact turn _ _ rfl rfl hl hp.1 hp.2
  · exact turn _ _ rfl rfl hl hp.1 hp.2
  · exact ⟨rfl, rfl, hs, hp.1, hp.2⟩
  · unfold Lk.cas
    split
    · exact ⟨rfl, rfl, hs, hp.1, hp.2⟩
    · exact turn _ _ rfl rfl hl hp.1 hp.2
  · split
    · exact ⟨rfl, rfl, hs, ms.1, ms.2⟩
    · exact ⟨rfl, rfl, hs, hp.1, hp.2⟩
  · exact ⟨rfl, rfl, hs, hp.1, hp.2⟩
theorem EnOk.step {M : Sd} {E : En} (h : EnOk E) (ms : 0 ≤ M.sp ∧ M.sp ≤ 16) (hl : ∀ a, S2.look M.L a < 18446744073709551616) (hk : ∀ i, M.lk i ≤ 64) : EnOk (enE M E) := by
  obtain ⟨o, ln, t, kw, tw, K, F⟩ := E
  have hln := h.ln
  have hen := h.en
  rcases (show ln = 0 ∨ ln = 1 ∨ ln = 2 ∨ ln = 3 ∨ ln = 4 ∨ ln = 5 ∨ ln = 6 from by have : ln ≤ 6 := hln; omega) with rfl | rfl | rfl | rfl | rfl | rfl | rfl
  · exact h
  · exact ⟨by show 2 ≤ 6; omega, fun _ => ⟨by show 2 ≠ 1; omega, by show 2 ≠ 5; omega⟩, h.t, (by have := hl (64 + t); show S2.look M.L (64 + t) % 4294967296 < _; omega), h.tw, h.k6, h.kt, h.ka, h.ks, h.kp, h.f⟩
  · refine ⟨by show 3 ≤ 6; omega, fun _ => ⟨by show 3 ≠ 1; omega, by show 3 ≠ 5; omega⟩, h.t, h.kw, hl _, by show 1 ≤ 6; omega, h.t, ?_, by show 0 < _; omega, ⟨by show (0 : Int) ≤ 0; omega, by show (0 : Int) ≤ 16; omega⟩, h.f⟩
    have := lok_in (kw % 4294967296) (S2.look M.L 0)
    show lokN (kw % 4294967296) (S2.look M.L 0) < _
    omega
  · obtain ⟨k1, k2, k3, k4, k5⟩ := stepK_ok (M := M) (K := K) h.ks h.kp ms (hl _)
    have e : enE M ⟨o, 3, t, kw, tw, K, F⟩ = ⟨o, if (stepK M K).ln = 0 then 4 else 3, t, kw, tw, stepK M K, F⟩ := rfl
    rw [e]
    refine ⟨?_, fun _ => ⟨?_, ?_⟩, h.t, h.kw, h.tw, step_le h.k6, by show (stepK M K).t < 64; rw [k1]; exact h.kt, by show (stepK M K).a < _; rw [k2]; exact h.ka, k3, ⟨k4, k5⟩, h.f⟩
    · show (if (stepK M K).ln = 0 then 4 else 3) ≤ 6; split <;> omega
    · show (if (stepK M K).ln = 0 then 4 else 3) ≠ 1; split <;> omega
    · show (if (stepK M K).ln = 0 then 4 else 3) ≠ 5; split <;> omega
  · by_cases hx : S2.look M.L 0 = tw
    · have e : enE M ⟨o, 4, t, kw, tw, K, F⟩ = ⟨o, if o then 5 else 0, t, kw, tw, K, F⟩ := if_pos hx
      rw [e]
      cases o
      · exact ⟨by show 0 ≤ 6; omega, fun _ => ⟨by show 0 ≠ 1; omega, by show 0 ≠ 5; omega⟩, h.t, h.kw, h.tw, h.k6, h.kt, h.ka, h.ks, h.kp, h.f⟩
      · exact ⟨by show 5 ≤ 6; omega, (fun e => by cases e), h.t, h.kw, h.tw, h.k6, h.kt, h.ka, h.ks, h.kp, h.f⟩
    · have e : enE M ⟨o, 4, t, kw, tw, K, F⟩ = ⟨o, 6, t, kw, tw, K, fr0 (lokN (kw % 4294967296) tw)⟩ := if_neg hx
      rw [e]
      have := lok_in (kw % 4294967296) tw
      exact ⟨by show 6 ≤ 6; omega, fun _ => ⟨by show 6 ≠ 1; omega, by show 6 ≠ 5; omega⟩, h.t, h.kw, h.tw, h.k6, h.kt, h.ka, h.ks, h.kp, fok_new (by omega)⟩
  · cases o
    · exact absurd rfl (hen rfl).2
    by_cases hx : S2.look M.L (64 + t) % 4294967296 = kw
    · have e : enE M ⟨true, 5, t, kw, tw, K, F⟩ = ⟨true, 0, t, kw, tw, K, F⟩ := if_pos hx
      rw [e]
      exact ⟨by show 0 ≤ 6; omega, (fun e => by cases e), h.t, h.kw, h.tw, h.k6, h.kt, h.ka, h.ks, h.kp, h.f⟩
    · have e : enE M ⟨true, 5, t, kw, tw, K, F⟩ = ⟨true, 6, t, kw, tw, K, fr0 (lokN (kw % 4294967296) tw)⟩ := if_neg hx
      rw [e]
      have := lok_in (kw % 4294967296) tw
      exact ⟨by show 6 ≤ 6; omega, (fun e => by cases e), h.t, h.kw, h.tw, h.k6, h.kt, h.ka, h.ks, h.kp, fok_new (by omega)⟩
  · have e : enE M ⟨o, 6, t, kw, tw, K, F⟩ = ⟨o, if (fstepK M F).ln = 0 then (if o then 1 else 2) else 6, t, kw, tw, K, fstepK M F⟩ := rfl
    rw [e]
    refine ⟨?_, fun ho => ?_, h.t, h.kw, h.tw, h.k6, h.kt, h.ka, h.ks, h.kp, h.f.step hl hk⟩
    · show (if (fstepK M F).ln = 0 then (if o then 1 else 2) else 6) ≤ 6
      split
      · split <;> omega
      · omega
    · have ho' : o = false := ho
      subst ho'
      refine ⟨?_, ?_⟩
      · show (if (fstepK M F).ln = 0 then 2 else 6) ≠ 1; split <;> omega
      · show (if (fstepK M F).ln = 0 then 2 else 6) ≠ 5; split <;> omega
theorem EnOk.lok {M : Sd} {E : En} (h : EnOk E) (ms : 0 ≤ M.sp ∧ M.sp ≤ 16) (hn : M.n ≤ 1000000000) (hp : M.pn ≤ 1000000000) : LkOk M E.K := ⟨h.kt, h.ka, h.ks, h.kp, ms, hn, hp⟩
section
variable {w0 w w' : World} {base WB : Nat} {M : Sd} {r : List Part} {j u U : Nat} {E : En} {Z : Wb} {X : Wm}
theorem Ew.look (h : Ew w0 w base WB M r j u E Z X) (a : Nat) : S2.look M.L a < 18446744073709551616 := h.wy.look a
theorem Ew.new (h : Ew w0 w base WB M r j u E Z X) (b : Below w.heap.size w w') : Ew w0 w' base WB M r j u E Z X := ⟨h.wy.new b, h.ju, h.hu, h.i, h.st, h.k, h.f, h.pl⟩
end
end Go.Proofs.YtpmafdggbeppcaaGreatDoor.S15
set_option linter.unusedVariables false
set_option linter.unusedSimpArgs false
namespace Go.Proofs.YtpmafdggbeppcaaGreatDoor.S15
open Go.Proofs.YtpmafdggbeppcaaGreatDoor Go.Proofs.YtpmafdggbeppcaaGreatDoor.S11 Go.Proofs.YtpmafdggbeppcaaGreatDoor.S12 Go.Proofs.YtpmafdggbeppcaaGreatDoor.S13 Go.Proofs.YtpmafdggbeppcaaGreatDoor.S14
open Go.RowKit
theorem at_over {E : En} (ok : EnOk E) : decide ((nPart E.ow : Int) ≤ (E.at : Int)) = decide (E.ln = 0) := by
  obtain ⟨o, ln, t, kw, tw, K, F⟩ := E
  have hln : ln ≤ 6 := ok.ln
  have hen := ok.en
  cases o
  · have h1 : ln ≠ 1 := (hen rfl).1
    have h5 : ln ≠ 5 := (hen rfl).2
    rcases (show ln = 0 ∨ ln = 2 ∨ ln = 3 ∨ ln = 4 ∨ ln = 6 from by omega) with rfl | rfl | rfl | rfl | rfl <;> rfl
  · rcases (show ln = 0 ∨ ln = 1 ∨ ln = 2 ∨ ln = 3 ∨ ln = 4 ∨ ln = 5 ∨ ln = 6 from by omega) with rfl | rfl | rfl | rfl | rfl | rfl | rfl <;> rfl
section
variable {w0 w w' : World} {base WB : Nat} {M : Sd} {r : List Part} {j u U : Nat} {E : En} {Z : Wb} {X : Wm}
theorem Ew.eover (h : Ew w0 w base WB M r j u E Z X) (ok : EnOk E) : Calls Tryz.prog 251 #[Pw Z.B] w fun e w' => e = .returned (.bool (decide (E.ln = 0))) ∧ Below w.heap.size w w' := by
  have := eover_any h.wy
  rwa [h.i, at_over ok] at this
def eit (p : Sd × En) : Sd × En := (enM p.1 p.2, enE p.1 p.2)
def eitn (p : Sd × En) : Nat → Sd × En
  | 0 => p
  | n + 1 => eit (eitn p n)
theorem stepM_n (M : Sd) (K : Lk) : (stepM M K).n ≤ M.n + 1 ∧ (stepM M K).pn ≤ M.pn + 1 ∧ (stepM M K).sp = M.sp := by
  unfold stepM
  split <;> simp [Sd.acc, Sd.link, Sd.prep, Sd.park, Sd.call]
theorem fstepM_sp (M : Sd) (K : Fr) : (fstepM M K).sp = M.sp := by
  unfold fstepM
  split <;> (try split) <;> simp [Sd.acc, Sd.link, Sd.unpark, Sd.call]
theorem enM_n (M : Sd) (E : En) : (enM M E).n ≤ M.n + 1 ∧ (enM M E).pn ≤ M.pn + 1 ∧ (enM M E).sp = M.sp := by
  unfold enM
  split
  · exact ⟨Nat.le_refl _, Nat.le_succ _, rfl⟩
  · exact ⟨Nat.le_refl _, Nat.le_succ _, rfl⟩
  · exact stepM_n M E.K
  · exact ⟨Nat.le_refl _, Nat.le_succ _, rfl⟩
  · exact ⟨Nat.le_refl _, Nat.le_succ _, rfl⟩
  · have := fstepM_n M E.F; exact ⟨this.1, this.2, fstepM_sp M E.F⟩
  · exact ⟨Nat.le_succ _, Nat.le_succ _, rfl⟩
theorem enE_ow (M : Sd) (E : En) : (enE M E).ow = E.ow ∧ (enE M E).t = E.t := by
  unfold enE
  split <;> (try split) <;> exact ⟨rfl, rfl⟩
theorem eitn_n (p : Sd × En) : ∀ n, (eitn p n).1.n ≤ p.1.n + n ∧ (eitn p n).1.pn ≤ p.1.pn + n ∧ (eitn p n).1.sp = p.1.sp ∧ (eitn p n).2.ow = p.2.ow
  | 0 => ⟨Nat.le_refl _, Nat.le_refl _, rfl, rfl⟩
  | n + 1 => by
    have h := eitn_n p n
    have g := enM_n (eitn p n).1 (eitn p n).2
    have g2 := enE_ow (eitn p n).1 (eitn p n).2
    exact ⟨by show (enM _ _).n ≤ _; omega, by show (enM _ _).pn ≤ _; omega, g.2.2.trans h.2.2.1, g2.1.trans h.2.2.2⟩
end
end Go.Proofs.YtpmafdggbeppcaaGreatDoor.S15
set_option linter.unusedVariables false
set_option linter.unusedSimpArgs false
namespace Go.Proofs.YtpmafdggbeppcaaGreatDoor.S15
set_option maxRecDepth 100000
set_option maxHeartbeats 16000000
open Go.Proofs.YtpmafdggbeppcaaGreatDoor Go.Proofs.YtpmafdggbeppcaaGreatDoor.S11 Go.Proofs.YtpmafdggbeppcaaGreatDoor.S12 Go.Proofs.YtpmafdggbeppcaaGreatDoor.S13 Go.Proofs.YtpmafdggbeppcaaGreatDoor.S14
open Go.RowKit
def NewE (w w' : World) (o : Bool) (t kw : Nat) (v : Value) : Prop :=
  ∃ Z : Wb, v = Pw Z.B ∧ WayAt w' o t kw 0 Z ∧ Below w.heap.size w w' ∧ Z.i = 0 ∧ Z.st = false ∧ (w.heap.size ≤ Z.B ∧ w.heap.size ≤ Z.PB ∧ w.heap.size ≤ Z.KB ∧ w.heap.size ≤ Z.TB)
theorem alloc_lt {w : World} {ob : Obj} {B : Nat} (h : B < w.heap.size) : (w.alloc ob).heap[B]? = w.heap[B]? := Below.heap_alloc _ _ _ h
theorem alloc_size (w : World) (ob : Obj) : (w.alloc ob).heap.size = w.heap.size + 1 := by simp
theorem alloc_at {w : World} {ob : Obj} {B : Nat} (h : B = w.heap.size) : (w.alloc ob).heap[B]? = some ob := by
  subst h
  exact heap_alloc_new w ob
theorem new_enter (t key : Nat) (ht : t < 64) (hk : key < 4294967296) (w : World) : Calls Tryz.prog 94 #[.int .i64 (t : Int), .int .u32 (key : Int)] w fun e w' => ∃ v, e = .returned v ∧ NewE w w' false t key v := by
  have hit := fun W => isT_any (t : Int) W
  rw [decide_eq_true (show 0 ≤ (t : Int) ∧ (t : Int) < 64 by omega)] at hit
  have HIT := Lib.hid hit
  have e1 : IntKind.u64.wrap (key : Int) = (key : Int) := by rw [IntKind.wrap_u64]; omega
  clear hit ht hk
  go_enter Tryz.func94, Tryz.ntmps94
  go_upto_region 4 with (go_at_call 127; refine (HIT.out _).mono ?_; rintro e w1 ⟨rfl, rfl⟩)
  go_wp2_with fail
  go_ret
  refine ⟨_, rfl, ⟨w.heap.size + 1 + 1 + 1, w.heap.size + 1 + 1, w.heap.size, w.heap.size + 1, 0, false, 0, 0, .nilIface⟩, rfl, ⟨?_, ⟨389, ?_⟩, ?_, ?_, ?_⟩, ?_, rfl, rfl, ⟨?_, ?_, ?_, ?_⟩⟩
  · exact alloc_at (by simp only [alloc_size])
  · rw [alloc_lt (by simp only [alloc_size]; omega)]
    exact alloc_at (by simp only [alloc_size])
  · rw [alloc_lt (by simp only [alloc_size]; omega), alloc_lt (by simp only [alloc_size]; omega), alloc_lt (by simp only [alloc_size]; omega)]
    exact heap_alloc_new _ _
  · rw [alloc_lt (by simp only [alloc_size]; omega), alloc_lt (by simp only [alloc_size]; omega)]
    exact alloc_at (by simp only [alloc_size])
  · show w.heap.size ≠ w.heap.size + 1; omega
  · exact (((below1 w _).alloc (by simp only [alloc_size]; omega) _).alloc (by simp only [alloc_size]; omega) _).alloc (by simp only [alloc_size]; omega) _
  · show w.heap.size ≤ w.heap.size + 1 + 1 + 1; omega
  · show w.heap.size ≤ w.heap.size + 1 + 1; omega
  · exact Nat.le_refl _
  · show w.heap.size ≤ w.heap.size + 1; omega
def noP : Part where
  ok _ := True
  fp _ := False
  lt _ _ _ e := e.elim
  kept _ _ _ _ _ _ := trivial
section
variable {w0 w w' : World} {base WB : Nat} {M : Sd} {r : List Part} {j u U : Nat} {o : Bool} {t kw tw : Nat} {Z : Wb} {X : Wm} {E : En}
theorem Pg.push1 (h : Pg w0 w base WB M r X) (q : Part) (b : Below w.heap.size w w') (hq : q.ok w') (hf : ∀ k, q.fp k → w.heap.size ≤ k) : Pg w0 w' base WB M (r ++ [q]) X := by
  have hp := h.ps.push q b hq hf
  rw [List.append_assoc] at hp
  exact ⟨hp, h.wB, h.xm, h.bl.trans (b.mono h.ps.size)⟩
end
end Go.Proofs.YtpmafdggbeppcaaGreatDoor.S15
set_option linter.unusedVariables false
set_option linter.unusedSimpArgs false
namespace Go.Proofs.YtpmafdggbeppcaaGreatDoor.S15
open Go.Proofs.YtpmafdggbeppcaaGreatDoor Go.Proofs.YtpmafdggbeppcaaGreatDoor.S11 Go.Proofs.YtpmafdggbeppcaaGreatDoor.S12 Go.Proofs.YtpmafdggbeppcaaGreatDoor.S13 Go.Proofs.YtpmafdggbeppcaaGreatDoor.S14
open Go.RowKit
theorem bring_low {a : Nat} (h : a < 1024) (v : Nat) : S2.bring a v = v := by
  have e1 : S2.oneB 1024 a = false := by unfold S2.oneB; rw [decide_eq_false (by omega)]; rfl
  have e2 : S2.oneB 1120 a = false := by unfold S2.oneB; rw [decide_eq_false (by omega)]; rfl
  unfold S2.bring S2.byteB
  rw [e1, e2]; rfl
theorem acc_same {M : Sd} {k a y : Nat} (h : a < 1024) : S2.look (M.acc k a y).L a = y := by
  show S2.look (S2.putL M.L a (S2.bring a y)) a = y
  rw [S2.look_put_same, bring_low h]
theorem acc_other {M : Sd} {k a y b : Nat} (h : b ≠ a) : S2.look (M.acc k a y).L b = S2.look M.L b := S2.look_put_other _ h _
theorem acc_load {M : Sd} {k a : Nat} (h : a < 1024) (b : Nat) : S2.look (M.acc k a (S2.look M.L a)).L b = S2.look M.L b := by
  by_cases e : b = a
  · subst e; exact acc_same h
  · exact acc_other e
structure Took (M M' : Sd) (a : Nat) : Prop where
  at_a : S2.look M'.L a = 1
  other : ∀ b, b ≠ a → S2.look M'.L b = S2.look M.L b
  n : M'.n ≤ M.n + 9
  pn : M'.pn ≤ M.pn + 9
  sp : M'.sp = M.sp
theorem lock1 {M : Sd} {t a : Nat} (ha : a < 1024) (h0 : S2.look M.L a = 0) : stepM M (lk1 t a) = M.acc 3 a 1 ∧ (stepK M (lk1 t a)).ln = 0 := by
  constructor
  · show M.acc 3 a (S2.casV (S2.look M.L a) 0 1) = _
    rw [h0]; rfl
  · show (Lk.cas _ (S2.look M.L a) 0 _).ln = 0
    unfold Lk.cas
    rw [if_pos h0]
section
variable {M : Sd} {t key x a : Nat}
theorem en3 (hx : S2.look M.L 0 = x) (ha : a = lokN (key % 4294967296) x) (h0 : S2.look M.L a = 0) :
    (∀ i, i < 3 → (eitn (M, en0 t key) i).2.ln ≠ 0) ∧ (eitn (M, en0 t key) 3).2.ln = 0 ∧ (eitn (M, en0 t key) 3).2.kw = key ∧ (eitn (M, en0 t key) 3).2.tw = x ∧ (eitn (M, en0 t key) 3).2.ow = false ∧ Took M (eitn (M, en0 t key) 3).1 a := by
  have ha2 := lok_in (key % 4294967296) x
  rw [← ha] at ha2
  have e1 : eit (M, en0 t key) = (M.acc 1 0 x, ⟨false, 3, t, key, x, lk1 t a, fr0 0⟩) := by
    show (M.acc 1 0 (S2.look M.L 0), (⟨false, 3, t, key, S2.look M.L 0, lk1 t (lokN (key % 4294967296) (S2.look M.L 0)), fr0 0⟩ : En)) = _
    rw [hx, ← ha]
  obtain ⟨M1, hM1⟩ : ∃ M1, M1 = M.acc 1 0 x := ⟨_, rfl⟩
  have l1 : ∀ b, S2.look M1.L b = S2.look M.L b := by rw [hM1, ← hx]; exact acc_load (by omega)
  obtain ⟨s1, s2⟩ := lock1 (M := M1) (t := t) (a := a) (by omega) (by rw [l1]; exact h0)
  rw [← hM1] at e1
  have e2 : eit (M1, ⟨false, 3, t, key, x, lk1 t a, fr0 0⟩) = (M1.acc 3 a 1, ⟨false, 4, t, key, x, stepK M1 (lk1 t a), fr0 0⟩) := by
    show (stepM M1 (lk1 t a), (⟨false, if (stepK M1 (lk1 t a)).ln = 0 then 4 else 3, t, key, x, stepK M1 (lk1 t a), fr0 0⟩ : En)) = _
    rw [s1, if_pos s2]
  obtain ⟨M2, hM2⟩ : ∃ M2, M2 = M1.acc 3 a 1 := ⟨_, rfl⟩
  rw [← hM2] at e2
  have l2a : S2.look M2.L a = 1 := by rw [hM2]; exact acc_same (by omega)
  have l2 : ∀ b, b ≠ a → S2.look M2.L b = S2.look M.L b := fun b hb => by rw [hM2, acc_other hb]; exact l1 b
  have e3 : eit (M2, ⟨false, 4, t, key, x, stepK M1 (lk1 t a), fr0 0⟩) = (M2.acc 1 0 (S2.look M2.L 0), ⟨false, 0, t, key, x, stepK M1 (lk1 t a), fr0 0⟩) := by
    show (M2.acc 1 0 (S2.look M2.L 0), (if S2.look M2.L 0 = x then (⟨false, 0, t, key, x, stepK M1 (lk1 t a), fr0 0⟩ : En) else _)) = _
    rw [if_pos (by rw [l2 0 (by omega)]; exact hx)]
  have f1 : eitn (M, en0 t key) 1 = (M1, ⟨false, 3, t, key, x, lk1 t a, fr0 0⟩) := e1
  have f2 : eitn (M, en0 t key) 2 = (M2, ⟨false, 4, t, key, x, stepK M1 (lk1 t a), fr0 0⟩) := by show eit (eitn (M, en0 t key) 1) = _; rw [f1, e2]
  have f3 : eitn (M, en0 t key) 3 = (M2.acc 1 0 (S2.look M2.L 0), ⟨false, 0, t, key, x, stepK M1 (lk1 t a), fr0 0⟩) := by show eit (eitn (M, en0 t key) 2) = _; rw [f2, e3]
  have hb := eitn_n (M, en0 t key) 3
  refine ⟨fun i hi => ?_, by rw [f3], by rw [f3], by rw [f3], by rw [f3], ?_⟩
  · rcases (show i = 0 ∨ i = 1 ∨ i = 2 by omega) with rfl | rfl | rfl
    · show 2 ≠ 0; omega
    · rw [f1]; show 3 ≠ 0; omega
    · rw [f2]; show 4 ≠ 0; omega
  · refine ⟨?_, fun b hb => ?_, by have h1 : (M, en0 t key).1.n = M.n := rfl; omega, by have h1 : (M, en0 t key).1.pn = M.pn := rfl; omega, hb.2.2.1⟩
    · rw [f3]; show S2.look (M2.acc 1 0 (S2.look M2.L 0)).L a = 1; rw [acc_load (by omega)]; exact l2a
    · rw [f3]; show S2.look (M2.acc 1 0 (S2.look M2.L 0)).L b = _; rw [acc_load (by omega)]; exact l2 b hb
theorem fr1 (ha : a < 1024) (h1 : S2.look M.L a = 1) : (fitn (M, fr0 a) 1).2.ln = 0 ∧ (fitn (M, fr0 a) 1).1 = M.acc 5 a 0 := by
  constructor
  · show (if idle (S2.look M.L a) = true then 0 else 2) = 0
    rw [h1, if_pos (by decide)]
  · show M.acc 5 a ((S2.look M.L a + 18446744073709551615) % 18446744073709551616) = _
    rw [h1]
end
theorem ok_en {t key : Nat} (ht : t < 64) (hk : key < 18446744073709551616) : EnOk (en0 t key) :=
  ⟨by show 2 ≤ 6; omega, fun _ => ⟨by show 2 ≠ 1; omega, by show 2 ≠ 5; omega⟩, ht, hk, by show 0 < _; omega, by show 0 ≤ 6; omega, by show 0 < 64; omega, by show 0 < _; omega, by show 0 < _; omega, ⟨by show (0 : Int) ≤ 0; omega, by show (0 : Int) ≤ 16; omega⟩, fok_new (by omega)⟩
theorem ok_ow {t : Nat} (ht : t < 64) : EnOk (ow0 t) :=
  ⟨by show 1 ≤ 6; omega, (fun e => by cases e), ht, by show 0 < _; omega, by show 0 < _; omega, by show 0 ≤ 6; omega, by show 0 < 64; omega, by show 0 < _; omega, by show 0 < _; omega, ⟨by show (0 : Int) ≤ 0; omega, by show (0 : Int) ≤ 16; omega⟩, fok_new (by omega)⟩
section
variable {w0 w w' : World} {base WB : Nat} {M : Sd} {r : List Part} {t key x a : Nat} {Z : Wb} {X : Wm}
theorem at_zero {E : En} (h : E.ln = 0) : E.at = nPart E.ow := by
  unfold En.at nPart
  rw [h]
  cases E.ow <;> rfl
end
end Go.Proofs.YtpmafdggbeppcaaGreatDoor.S15
set_option linter.unusedVariables false
set_option linter.unusedSimpArgs false
namespace Go.Proofs.YtpmafdggbeppcaaGreatDoor.S15
open Go.Proofs.YtpmafdggbeppcaaGreatDoor Go.Proofs.YtpmafdggbeppcaaGreatDoor.S11 Go.Proofs.YtpmafdggbeppcaaGreatDoor.S12 Go.Proofs.YtpmafdggbeppcaaGreatDoor.S13 Go.Proofs.YtpmafdggbeppcaaGreatDoor.S14
open Go.RowKit
theorem look02 (b : Nat) : S2.look L02 b = if b = 0 then 2 else 0 := by
  have e : L02 = [(0, 2)] := by decide
  rw [e]
  by_cases h : b = 0
  · subst h; rfl
  · rw [if_neg h]
    unfold S2.look
    have : ((0 : Nat) == b) = false := by simp; omega
    simp [List.find?, this]
section
variable {w0 w w' : World} {base WB : Nat} {M : Sd} {r : List Part} {X : Wm}
end
end Go.Proofs.YtpmafdggbeppcaaGreatDoor.S15
set_option linter.unusedVariables false
set_option linter.unusedSimpArgs false
namespace Go.Proofs.YtpmafdggbeppcaaGreatDoor.S16
open Go.Proofs.YtpmafdggbeppcaaGreatDoor Go.Proofs.YtpmafdggbeppcaaGreatDoor.S11 Go.Proofs.YtpmafdggbeppcaaGreatDoor.S12 Go.Proofs.YtpmafdggbeppcaaGreatDoor.S13 Go.Proofs.YtpmafdggbeppcaaGreatDoor.S14 Go.Proofs.YtpmafdggbeppcaaGreatDoor.S15
open Go.RowKit
structure Pr where
  ln : Nat
  t : Nat
  a : Nat
  b : Nat
  tw : Nat
  K1 : Lk
  K2 : Lk
  F : Fr
abbrev Rows := List (Nat × Obj)
def rowsP (l : Rows) : Part where
  ok w := (∀ x, x ∈ l → w.heap[x.1]? = some x.2) ∧ (l.map Prod.fst).Nodup
  fp k := ∃ ob, (k, ob) ∈ l
  lt w h k e := by
    obtain ⟨ob, he⟩ := e
    exact heap_lt (h.1 _ he)
  kept S w w' h t hs := ⟨fun x hx => (t.block x.1 (heap_lt (h.1 _ hx)) (hs _ ⟨x.2, hx⟩)).trans (h.1 _ hx), h.2⟩
theorem at_end (l : Rows) (x : Nat × Obj) : (l ++ [x])[l.length]? = some x := by rw [List.getElem?_append_right (Nat.le_refl _), Nat.sub_self]; rfl
theorem app1 {l a : Rows} {k : Nat} {x : Nat × Obj} (h : l[k]? = some x) : (l ++ a)[k]? = some x := by
  rw [List.getElem?_append_left (List.getElem?_eq_some_iff.1 h).1]; exact h
theorem app2 {l a b : Rows} {k : Nat} {x : Nat × Obj} (h : l[k]? = some x) : (l ++ a ++ b)[k]? = some x := app1 (app1 h)
theorem app3 {l a b c : Rows} {k : Nat} {x : Nat × Obj} (h : l[k]? = some x) : (l ++ a ++ b ++ c)[k]? = some x := app1 (app2 h)
section
variable {w0 w w' : World} {base WB : Nat} {M : Sd} {r : List Part} {j u U : Nat} {l l' : Rows} {X : Wm}
structure Wq (w0 w : World) (base WB : Nat) (M : Sd) (r : List Part) (j : Nat) (l : Rows) (X : Wm) : Prop where
  pg : Pg w0 w base WB M (r.set j (rowsP l)) X
  hj : j < r.length
theorem Wq.new (h : Wq w0 w base WB M r j l X) (b : Below w.heap.size w w') : Wq w0 w' base WB M r j l X := ⟨h.pg.new b, h.hj⟩
theorem Wq.part (h : Wq w0 w base WB M r j l X) : (r.set j (rowsP l))[j]? = some (rowsP l) := List.getElem?_set_self h.hj
theorem Wq.at (h : Wq w0 w base WB M r j l X) : (rowsP l).ok w := h.pg.ps.ok _ _ (h.pg.part h.part)
theorem Wq.blk (h : Wq w0 w base WB M r j l X) (k : Nat) {B : Nat} {ob : Obj} (e : l[k]? = some (B, ob)) : w.heap[B]? = some ob := h.at.1 _ (List.mem_of_getElem? e)
theorem Wq.lt (h : Wq w0 w base WB M r j l X) {x : Nat × Obj} (e : x ∈ l) : x.1 < w.heap.size := heap_lt (h.at.1 _ e)
theorem Wq.turn (h : Wq w0 w base WB M r j l X) (hq : (rowsP l').ok w') (tn : Turns (rowsP l).fp w w') (hf : ∀ k, (rowsP l').fp k → (rowsP l).fp k ∨ w.heap.size ≤ k) : Wq w0 w' base WB M r j l' X := by
  have := h.pg.turn h.part (rowsP l') hq tn hf
  rw [List.set_set] at this
  exact ⟨this, h.hj⟩
theorem Wq.only (h : Wq w0 w base WB M r j l X) (hs : ∀ x, x ∈ l' → x ∈ l) (hn : (l'.map Prod.fst).Nodup) : Wq w0 w base WB M r j l' X :=
  h.turn ⟨fun x hx => h.at.1 x (hs x hx), hn⟩ (Turns.refl _ w) (fun k hk => .inl (by obtain ⟨ob, he⟩ := hk; exact ⟨ob, hs _ he⟩))
theorem set_fst {l : Rows} {k B : Nat} {o1 o2 : Obj} (e : l[k]? = some (B, o1)) : (l.set k (B, o2)).map Prod.fst = l.map Prod.fst := by
  rw [List.map_set]
  refine List.ext_getElem? fun i => ?_
  by_cases hi : i = k
  · subst hi
    have hlt : i < l.length := (List.getElem?_eq_some_iff.1 e).1
    rw [List.getElem?_set_self (by rw [List.length_map]; exact hlt), List.getElem?_map, e]; rfl
  · rw [List.getElem?_set_ne (Ne.symm hi)]
theorem nodup_at {l : Rows} (hn : (l.map Prod.fst).Nodup) {i k : Nat} {x y : Nat × Obj} (hi : l[i]? = some x) (hk : l[k]? = some y) (e : x.1 = y.1) : i = k := by
  have h1 : (l.map Prod.fst)[i]? = some x.1 := by rw [List.getElem?_map, hi]; rfl
  have h2 : (l.map Prod.fst)[k]? = some x.1 := by rw [List.getElem?_map, hk, e]; rfl
  exact (List.getElem?_inj (List.getElem?_eq_some_iff.1 h1).1 hn).1 (h1.trans h2.symm)
theorem Wq.put (h : Wq w0 w base WB M r j l X) (k : Nat) {B T : Nat} {cs cs' : Array Value} (e : l[k]? = some (B, .cells cs T (0, 0))) (i : Nat) (v : Value) (ec : cs.setIfInBounds i v = cs') : Wq w0 (w.setCell ⟨B, i, none⟩ v) base WB M r j (l.set k (B, .cells cs' T (0, 0))) X := by
  have hb := h.blk k e
  have hm : (B, .cells cs T (0, 0)) ∈ l := List.mem_of_getElem? e
  refine h.turn ⟨fun x hx => ?_, by rw [set_fst e]; exact h.at.2⟩ ((Turns.refl _ w).setCell ⟨B, i, none⟩ _ ⟨_, hm⟩) (fun q hq => .inl ?_)
  · obtain ⟨n, hn⟩ := List.getElem?_of_mem hx
    by_cases hnk : n = k
    · subst hnk
      rw [List.getElem?_set_self (List.getElem?_eq_some_iff.1 e).1] at hn
      injection hn with hn
      rw [← hn]
      exact set_blk hb i v _ ec
    · rw [List.getElem?_set_ne (Ne.symm hnk)] at hn
      rw [heap_set_ne (fun he => hnk (nodup_at h.at.2 hn e he))]
      exact h.blk n hn
  · obtain ⟨ob, hx⟩ := hq
    have hx2 : q ∈ (l.set k (B, .cells cs' T (0, 0))).map Prod.fst := List.mem_map.2 ⟨_, hx, rfl⟩
    rw [set_fst e] at hx2
    obtain ⟨y, hy, rfl⟩ := List.mem_map.1 hx2
    exact ⟨y.2, hy⟩
theorem Wq.push (h : Wq w0 w base WB M r j l X) (ob : Obj) : Wq w0 (w.alloc ob) base WB M r j (l ++ [(w.heap.size, ob)]) X := by
  refine h.turn ⟨fun x hx => ?_, ?_⟩ ((Turns.refl _ w).alloc ob) (fun q hq => ?_)
  · rcases List.mem_append.1 hx with hx | hx
    · rw [alloc_lt (h.lt hx)]; exact h.at.1 x hx
    · rw [List.mem_singleton] at hx
      subst hx
      exact heap_alloc_new w ob
  · rw [List.map_append, List.nodup_append]
    refine ⟨h.at.2, by simp, fun a ha b hb e => ?_⟩
    obtain ⟨y, hy, rfl⟩ := List.mem_map.1 ha
    have := h.lt hy
    simp at hb
    omega
  · obtain ⟨ob', hx⟩ := hq
    rcases List.mem_append.1 hx with hx | hx
    · exact .inl ⟨ob', hx⟩
    · rw [List.mem_singleton] at hx
      injection hx with h1 h2
      exact .inr (by omega)
theorem Wq.keep {s : Rows} {k : Nat} {y : Nat × Obj} (h : Wq w0 w base WB M r j ((l ++ s).set k y) X) (hk : k < l.length) : Wq w0 w base WB M r j (y :: s) X := by
  have hs := h.at.2
  rw [List.set_append_left _ _ hk] at h hs
  refine h.only (fun x hx => ?_) ?_
  · rcases List.mem_cons.1 hx with rfl | hx
    · exact List.mem_append_left _ (List.mem_set hk x)
    · exact List.mem_append_right _ hx
  · rw [List.map_append, List.nodup_append] at hs
    rw [List.map_cons, List.nodup_cons]
    refine ⟨fun hm => hs.2.2 _ (List.mem_map.2 ⟨y, List.mem_set hk y, rfl⟩) _ hm rfl, hs.2.1⟩
theorem Wq.newU (h : Wq w0 w base WB M r j l X) (hju : j ≠ u) (hu : u < r.length) (ob : Obj) : Wq w0 (w.alloc ob) base WB M (r.set u (blockP w.heap.size ob)) j l X := by
  have e : (r.set j (rowsP l))[u]? = r[u]? := List.getElem?_set_ne hju
  have hp : (r.set j (rowsP l))[u]? = some r[u] := by rw [e]; exact List.getElem?_eq_getElem hu
  have h2 := h.pg.turn hp (blockP w.heap.size ob) (heap_alloc_new w ob) ((Turns.refl _ w).alloc ob) (fun k e => .inr (Nat.le_of_eq (show k = w.heap.size from e).symm))
  rw [List.set_comm _ _ hju] at h2
  exact ⟨h2, by rw [List.length_set]; exact h.hj⟩
theorem Wq.free {K : Fr} (h : Wq w0 w base WB M r j l X) (hju : j ≠ u) (hu : r[u]? = some (freeP U K)) : Wf w0 w base WB M (r.set j (rowsP l)) u U K X := by
  have e : (r.set j (rowsP l))[u]? = some (freeP U K) := (List.getElem?_set_ne hju).trans hu
  exact ⟨by rw [set_eq e]; exact h.pg, (List.getElem?_eq_some_iff.1 e).1⟩
theorem wq_free {K : Fr} (h : Wf w0 w base WB M (r.set j (rowsP l)) u U K X) (hju : j ≠ u) (hj : j < r.length) : Wq w0 w base WB M (r.set u (freeP U K)) j l X := by
  have hp := h.pg
  rw [List.set_comm _ _ hju] at hp
  exact ⟨hp, by rw [List.length_set]; exact hj⟩
end
end Go.Proofs.YtpmafdggbeppcaaGreatDoor.S16
namespace Go.Proofs.YtpmafdggbeppcaaGreatDoor.S10
open Go.Proofs.YtpmafdggbeppcaaGreatDoor
open Go.RowKit
def idx (p : Ent → Bool) (D : List Ent) : Int := match D.findIdx? p with | some i => (i : Int) | none => -1
def byKey (key : Int) (e : Ent) : Bool := decide (e.k = key)
def byThread (t : Int) (e : Ent) : Bool := decide (e.t = t)
end Go.Proofs.YtpmafdggbeppcaaGreatDoor.S10
