/- Texts of this seat, one behind the other. -/
import Derived.Test.YtokplfkhpjcfcaaGreatMLawAny151
import Derived.Test.YtokplfkhpjcfcaaGreatMLawAny1530
set_option linter.unusedVariables false
set_option linter.unusedSimpArgs false
set_option linter.unusedVariables false
set_option linter.unusedSimpArgs false
namespace Go.Proofs.YtokplfkhpjcfcaaGreat.S15
set_option maxRecDepth 100000
set_option maxHeartbeats 16000000
open Go.Proofs.YtokplfkhpjcfcaaGreat Go.Proofs.YtokplfkhpjcfcaaGreat.S11 Go.Proofs.YtokplfkhpjcfcaaGreat.S12 Go.Proofs.YtokplfkhpjcfcaaGreat.S13 Go.Proofs.YtokplfkhpjcfcaaGreat.S14
open Go.RowKit
section
variable {w0 w w' : World} {base WB : Nat} {M : Sd} {r : List Part} {j u U : Nat} {o : Bool} {t kw tw : Nat} {Z : Wb} {X : Wm}
theorem wover_any (h : Wy w0 w base WB M r j o t kw tw Z X) : Calls Tryz.prog 49 #[Pw Z.B] w fun e w' => e = .returned (.bool (decide ((nPart o : Int) ≤ Z.i))) ∧ Below w.heap.size w w' := by
  have c0 := h.c.1; have c1 := h.c.2.1
  generalize Z.i = i at *
  generalize nPart o = n at *
  clear h
  by_cases g : (n : Int) ≤ i
  · rw [decide_eq_true g]
    have d1 : decide ((n : Int) ≤ i) = true := decide_eq_true g
    go_enter Tryz.func49, Tryz.ntmps49
    go_upto_region 1 with (fail)
    go_quiet (fail)
    go_wp2_with fail
    go_ret
    exact ⟨rfl, below_n _ _⟩
  · rw [decide_eq_false g]
    have d1 : decide ((n : Int) ≤ i) = false := decide_eq_false g
    go_enter Tryz.func49, Tryz.ntmps49
    go_upto_region 1 with (fail)
    go_quiet (fail)
    go_wp2_with fail
    go_ret
    exact ⟨rfl, below_n _ _⟩
theorem eover_any (h : Wy w0 w base WB M r j o t kw tw Z X) : Calls Tryz.prog 16 #[Pw Z.B] w fun e w' => e = .returned (.bool (decide ((nPart o : Int) ≤ Z.i))) ∧ Below w.heap.size w w' := by
  have HW := Lib.hid (wover_any h)
  clear h
  generalize decide ((nPart o : Int) ≤ Z.i) = b at *
  go_enter Tryz.func16, Tryz.ntmps16
  go_wp2_with (go_at_call 49; refine HW.out.mono ?_; rintro e w1 ⟨rfl, hb⟩)
  go_ret
  exact ⟨rfl, hb⟩
theorem eover_nil (w : World) : Calls Tryz.prog 16 #[.pointer none] w fun e w' => e = .returned (.bool true) ∧ w = w' := by
  go_enter Tryz.func16, Tryz.ntmps16
  go_wp2_with fail
  go_ret
  exact ⟨rfl, rfl⟩
theorem oover_nil (w : World) : Calls Tryz.prog 19 #[.pointer none] w fun e w' => e = .returned (.bool true) ∧ w = w' := by
  go_enter Tryz.func19, Tryz.ntmps19
  go_wp2_with fail
  go_ret
  exact ⟨rfl, rfl⟩
theorem Wy.turnLast {Q : Nat} {ob : Obj} (h : Wy w0 w base WB M (r ++ [blockP Q ob]) j o t kw tw Z X) (hj : j < r.length) (ob' : Obj) (hq : w'.heap[Q]? = some ob') (tn : Turns (fun k => k = Q) w w') : Wy w0 w' base WB M (r ++ [blockP Q ob']) j o t kw tw Z X := by
  have hi : ((r ++ [blockP Q ob]).set j (wayP o t kw tw Z))[r.length]? = some (blockP Q ob) := by
    rw [List.set_append_left _ _ hj, List.getElem?_append_right (by rw [List.length_set]; exact Nat.le_refl _), List.length_set, Nat.sub_self]; rfl
  have h2 := h.pg.turn hi (blockP Q ob') hq tn (fun k e => .inl e)
  rw [List.set_append_left _ _ hj] at h2
  rw [List.set_append_right _ _ (by rw [List.length_set]; exact Nat.le_refl _), List.length_set, Nat.sub_self] at h2
  refine ⟨?_, by rw [List.length_append]; simp; omega⟩
  rw [List.set_append_left _ _ hj]
  exact h2
theorem below_turn {w w1 w2 w3 : World} {Q : Nat} (h1 : Below w.heap.size w w1) (h2 : Below w1.heap.size w1 w2) (ht : Turns (fun k => k = Q) w2 w3) (hQ : Q = w.heap.size) : Below w.heap.size w w3 := by
  have hb := h1.trans (h2.mono h1.size)
  exact hb.trans (ht.below hb.size (fun k hk e => by have h1 : k = Q := e; omega))
abbrev plV (b i : Int) : Value := .agg #[.int .i64 b, .int .i64 i]
theorem wgot_yes (h : Wy w0 w base WB M r j o t kw tw Z X) (hi : (nPart o : Int) ≤ Z.i) : Calls Tryz.prog 48 #[Pw Z.B] w fun e w' => e = .returned (.tuple #[plV Z.pb Z.pi, .int .u32 ((kw % 4294967296 : Nat) : Int)]) ∧ Below w.heap.size w w' := by
  have hj := h.hj
  have HB := Lib.hid (below1 w (.cells #[.int .i64 0, .int .i64 0] 27))
  have hA := h.pushB (.cells #[.int .i64 0, .int .i64 0] 27)
  have hov := fun (W : World) (hb : Below w.heap.size w W) => wover_any (h.new hb)
  rw [decide_eq_true hi] at hov
  have hov1 := hov _ (below1 w (.cells #[.int .i64 0, .int .i64 0] 27))
  obtain ⟨Q, hQ⟩ : ∃ Q, Q = w.heap.size := ⟨_, rfl⟩
  rw [← hQ] at hA
  obtain ⟨b, hb⟩ : ∃ b, b = Z.pb := ⟨_, rfl⟩
  obtain ⟨i, hpi⟩ : ∃ i, i = Z.pi := ⟨_, rfl⟩
  have ew : IntKind.u32.wrap (kw : Int) = ((kw % 4294967296 : Nat) : Int) := by rw [IntKind.wrap_u32]; omega
  have c3 := hA.c.2.2.2.1
  have HOV := Lib.hid hov1; have HA := Lib.hid hA; have HJ := Lib.hid hj; have HBI := Lib.hid (And.intro hb hpi); have HQ := Lib.hid hQ
  rw [← hb, ← hpi]
  obtain ⟨ky, hky⟩ : ∃ ky, ky = kw % 4294967296 := ⟨_, rfl⟩
  rw [← hky] at ew ⊢
  clear h hov hov1 hi hj hA hQ hb hpi hky
  go_enter Tryz.func48, Tryz.ntmps48
  go_upto_region 1 with (fail)
  rw [← HQ.out]
  generalize w.alloc (.cells #[.int .i64 0, .int .i64 0] 27) = w1 at *
  go_upto_region 3 with (go_at_call 49; refine HOV.out.mono ?_; rintro e w2 ⟨rfl, hb2⟩; have H2 := Lib.hid (HA.out.new hb2); have HB2 := Lib.hid hb2; have c3 := (HA.out.new hb2).c.2.2.2.1; clear hb2)
  clear c3
  refine wp_region_held_drew (S := fun w' => w'.cell? ⟨Z.B, 5, none⟩ = some (.int .i64 b) ∧ w'.cell? ⟨Z.B, 6, none⟩ = some (.int .i64 i) ∧ w'.cell? ⟨Z.B, 3, none⟩ = some (Pw Z.KB) ∧ w'.cell? ⟨Z.KB, 2, none⟩ = some (.int .u64 (kw : Int))) (by kernel_rfl) ?_ (fun hHeld => ?_)
  · exact ⟨by rw [HBI.out.1]; exact (H2.out.new (Below.refl _ _).drew).c.2.2.2.2.2.1, by rw [HBI.out.2]; exact (H2.out.new (Below.refl _ _).drew).c.2.2.2.2.2.2.1, (H2.out.new (Below.refl _ _).drew).c.2.2.2.1, (H2.out.new (Below.refl _ _).drew).kc.2⟩
  refine tA 0 ⟨some 16, .move (.tmp 0), 214, "parts.go:68", #[], none⟩ ?vgm1 ?rgm1
  (try simp only [Act.put, tC, tD, tE])
  refine tA 1 ⟨some 17, .nilCheck (.tmp 16), 0, "parts.go:68", #[⟨0, .data⟩], none⟩ ?vgm2 ?rgm2
  (try simp only [Act.put, tC, tD, tE])
  refine tA 2 ⟨some 18, .fieldAddr 55 (.tmp 17) 2, 0, "parts.go:68", #[⟨1, .data⟩], none⟩ ?vgm3 ?rgm3
  (try simp only [Act.put, tC, tD, tE])
  refine tA 3 ⟨some 19, .fieldAddr 53 (.tmp 18) 3, 0, "parts.go:68", #[⟨2, .data⟩], none⟩ ?vgm4 ?rgm4
  (try simp only [Act.put, tC, tD, tE])
  refine tA 4 ⟨some 20, .load 27 (.tmp 19), 27, "parts.go:68", #[⟨3, .data⟩], none⟩ ?vgm5 ?rgm5
  (try simp only [Act.put, tC, tD, tE])
  refine tA 5 ⟨some 21, .move (.tmp 0), 214, "parts.go:68", #[⟨14, .gcOnly .lateStores⟩], none⟩ ?vgm6 ?rgm6
  (try simp only [Act.put, tC, tD, tE])
  refine tA 6 ⟨some 22, .nilCheck (.tmp 21), 0, "parts.go:68", #[⟨5, .data⟩, ⟨14, .gcOnly .lateStores⟩], none⟩ ?vgm7 ?rgm7
  (try simp only [Act.put, tC, tD, tE])
  refine tA 7 ⟨some 23, .fieldAddr 55 (.tmp 22) 2, 0, "parts.go:68", #[⟨6, .data⟩, ⟨14, .gcOnly .lateStores⟩], none⟩ ?vgm8 ?rgm8
  (try simp only [Act.put, tC, tD, tE])
  refine tA 8 ⟨some 24, .fieldAddr 53 (.tmp 23) 1, 0, "parts.go:68", #[⟨7, .data⟩, ⟨14, .gcOnly .lateStores⟩], none⟩ ?vgm9 ?rgm9
  (try simp only [Act.put, tC, tD, tE])
  refine tA 9 ⟨some 25, .load 49 (.tmp 24), 49, "parts.go:68", #[⟨8, .data⟩, ⟨14, .gcOnly .lateStores⟩], none⟩ ?vgm10 ?rgm10
  (try simp only [Act.put, tC, tD, tE])
  refine tA 10 ⟨some 26, .nilCheck (.tmp 25), 0, "parts.go:68", #[⟨9, .data⟩, ⟨14, .gcOnly .lateStores⟩], none⟩ ?vgm11 ?rgm11
  (try simp only [Act.put, tC, tD, tE])
  refine tA 11 ⟨some 27, .fieldAddr 132 (.tmp 26) 2, 0, "parts.go:68", #[⟨10, .data⟩, ⟨14, .gcOnly .lateStores⟩], none⟩ ?vgm12 ?rgm12
  (try simp only [Act.put, tC, tD, tE])
  refine tA 12 ⟨some 28, .load 22 (.tmp 27), 22, "parts.go:68", #[⟨11, .data⟩, ⟨14, .gcOnly .lateStores⟩], none⟩ ?vgm13 ?rgm13
  (try simp only [Act.put, tC, tD, tE])
  refine tA 13 ⟨some 29, .convert 22 24 (.tmp 28), 24, "parts.go:68", #[⟨12, .data⟩, ⟨14, .gcOnly .lateStores⟩], none⟩ ?vgm14 ?rgm14
  (try simp only [Act.put, tC, tD, tE])
  refine wpAnyH_ready (rs := [14]) (by kernel_rfl) (by simp) ?_
  refine AllReadyH.cons (o := ⟨none, .store 27 (.tmp 2) (.tmp 20), 0, "parts.go:68", #[⟨4, .data⟩, ⟨0, .phase⟩, ⟨1, .phase⟩, ⟨2, .phase⟩, ⟨3, .phase⟩, ⟨4, .phase⟩, ⟨5, .textOnly .lateStores⟩, ⟨6, .textOnly .lateStores⟩, ⟨7, .textOnly .lateStores⟩, ⟨8, .textOnly .lateStores⟩, ⟨9, .textOnly .lateStores⟩, ⟨10, .textOnly .lateStores⟩, ⟨11, .textOnly .lateStores⟩, ⟨12, .textOnly .lateStores⟩, ⟨13, .textOnly .lateStores⟩], none⟩) rfl (fun Kq hKq => ?_) AllReadyH.nil
  (have q0 : w2.cell? ⟨Q, 0, none⟩ = some (.int .i64 0) := cell_row (H2.out.last HJ.out) 0; have q1 : w2.cell? ⟨Q, 1, none⟩ = some (.int .i64 0) := cell_row (H2.out.last HJ.out) 1; have z0 := froz_row (H2.out.last HJ.out) 0; have z1 := froz_row (H2.out.last HJ.out) 1; go_simp; have h3 := H2.out.turnLast HJ.out (.cells #[.int .i64 b, .int .i64 i] 27) (set_blk (set_blk (H2.out.last HJ.out) 0 (.int .i64 b) _ rfl) 1 (.int .i64 i) _ rfl) (((Turns.refl (fun k => k = Q) w2).setCell ⟨Q, 0, none⟩ _ rfl).setCell ⟨Q, 1, none⟩ _ rfl); have H3 := Lib.hid (h3.new (Below.refl _ _).drew); have HT := Lib.hid (((Turns.refl (fun k => k = Q) w2).setCell ⟨Q, 0, none⟩ (.int .i64 b) rfl).setCell ⟨Q, 1, none⟩ (.int .i64 i) rfl); clear q0 q1 z0 z1 h3; generalize (w2.setCell ⟨Q, 0, none⟩ (.int .i64 b)).setCell ⟨Q, 1, none⟩ (.int .i64 i) = w3 at *)
  refine hKq.out _ _ ?_ (fun hHeld => ?_)
  · exact ⟨by rw [HBI.out.1]; exact H3.out.c.2.2.2.2.2.1, by rw [HBI.out.2]; exact H3.out.c.2.2.2.2.2.2.1, H3.out.c.2.2.2.1, H3.out.kc.2⟩
  clear hKq Kq
  (try simp only [Act.put, tC, tD, tE])
  refine tA 15 ⟨some 3, .assign (.tmp 29), 24, "parts.go:68", #[⟨13, .data⟩, ⟨14, .chain⟩, ⟨0, .phase⟩, ⟨1, .phase⟩, ⟨2, .phase⟩, ⟨3, .phase⟩, ⟨4, .phase⟩, ⟨5, .phase⟩, ⟨6, .phase⟩, ⟨7, .phase⟩, ⟨8, .phase⟩, ⟨9, .phase⟩, ⟨10, .phase⟩, ⟨11, .phase⟩, ⟨12, .phase⟩, ⟨13, .phase⟩, ⟨14, .phase⟩], none⟩ ?vgm15 ?rgm15
  (try simp only [Act.put, tC, tD, tE])
  refine wpAnyH_done (by kernel_rfl) ?_ _
  have q0 : w3.cell? ⟨Q, 0, none⟩ = some (.int .i64 b) := cell_row (H3.out.last HJ.out) 0
  have q1 : w3.cell? ⟨Q, 1, none⟩ = some (.int .i64 i) := cell_row (H3.out.last HJ.out) 1
  clear hHeld HOV HA H2 HBI
  go_wp2_with fail
  exact bodyPost_ret (v := .tuple #[plV b i, .int .u32 (ky : Int)]) (by simp [results, Tryz.results48, go_sem, q0, q1]) rfl ⟨rfl, (below_turn HB.out HB2.out HT.out HQ.out).trans (Below.refl _ _).drew⟩
theorem wgot_no (h : Wy w0 w base WB M r j o t kw tw Z X) (hi : ¬ (nPart o : Int) ≤ Z.i) : Calls Tryz.prog 48 #[Pw Z.B] w fun e w' => e = .returned (.tuple #[plV 0 0, .int .u32 0]) ∧ Below w.heap.size w w' := by
  have hov := fun (W : World) (hb : Below w.heap.size w W) => wover_any (h.new hb)
  rw [decide_eq_false hi] at hov
  have hov1 := hov _ (below1 w (.cells #[.int .i64 0, .int .i64 0] 27))
  obtain ⟨Q, hQ⟩ : ∃ Q, Q = w.heap.size := ⟨_, rfl⟩
  have ha := heap_alloc_new w (.cells #[.int .i64 0, .int .i64 0] 27)
  rw [← hQ] at ha
  have HOV := Lib.hid hov1; have HQ := Lib.hid hQ; have HA := Lib.hid ha
  have HB := Lib.hid (below1 w (.cells #[.int .i64 0, .int .i64 0] 27))
  clear h hov hov1 hi hQ ha
  go_enter Tryz.func48, Tryz.ntmps48
  go_upto_region 1 with (fail)
  rw [← HQ.out]
  generalize w.alloc (.cells #[.int .i64 0, .int .i64 0] 27) = w1 at *
  go_upto_region 2 with (go_at_call 49; refine HOV.out.mono ?_; rintro e w2 ⟨rfl, hb2⟩; have HB2 := Lib.hid hb2; clear hb2)
  have l1 : w2.heap[Q]? = some (.cells #[.int .i64 0, .int .i64 0] 27) := by rw [HB2.out.block Q (heap_lt HA.out)]; exact HA.out
  have q0 : w2.cell? ⟨Q, 0, none⟩ = some (.int .i64 0) := cell_row l1 0
  have q1 : w2.cell? ⟨Q, 1, none⟩ = some (.int .i64 0) := cell_row l1 1
  have z0 := froz_row l1 0; have z1 := froz_row l1 1
  have L1 := Lib.hid l1
  clear l1
  go_wp2_with fail
  have l2 : ((w2.setCell ⟨Q, 0, none⟩ (.int .i64 0)).setCell ⟨Q, 1, none⟩ (.int .i64 0)).heap[Q]? = some (.cells #[.int .i64 0, .int .i64 0] 27) := set_blk (set_blk L1.out 0 (.int .i64 0) _ rfl) 1 (.int .i64 0) _ rfl
  have t : Turns (fun k => k = Q) w2 ((w2.setCell ⟨Q, 0, none⟩ (.int .i64 0)).setCell ⟨Q, 1, none⟩ (.int .i64 0)) := ((Turns.refl (fun k => k = Q) w2).setCell ⟨Q, 0, none⟩ _ rfl).setCell ⟨Q, 1, none⟩ _ rfl
  generalize (w2.setCell ⟨Q, 0, none⟩ (.int .i64 0)).setCell ⟨Q, 1, none⟩ (.int .i64 0) = w3 at *
  have p0 : w3.cell? ⟨Q, 0, none⟩ = some (.int .i64 0) := cell_row l2 0
  have p1 : w3.cell? ⟨Q, 1, none⟩ = some (.int .i64 0) := cell_row l2 1
  clear q0 q1 z0 z1 l2
  refine bodyPost_ret (v := .tuple #[plV 0 0, .int .u32 0]) (by simp [results, Tryz.results48, go_sem, p0, p1]) rfl ⟨rfl, ?_⟩
  have hb := HB.out.trans (HB2.out.mono HB.out.size)
  exact hb.trans (t.below hb.size (fun k hk e => by have h1 : k = Q := e; have h2 := HQ.out; omega))
theorem egot_yes (h : Wy w0 w base WB M r j o t kw tw Z X) (hi : (nPart o : Int) ≤ Z.i) : Calls Tryz.prog 18 #[Pw Z.B] w fun e w' => e = .returned (plV Z.pb Z.pi) ∧ Below w.heap.size w w' := by
  have hg := wgot_yes (h.new (below1 w (.cells #[.int .i64 0, .int .i64 0] 27))) hi
  obtain ⟨Q, hQ⟩ : ∃ Q, Q = w.heap.size := ⟨_, rfl⟩
  have ha := heap_alloc_new w (.cells #[.int .i64 0, .int .i64 0] 27)
  rw [← hQ] at ha
  obtain ⟨b, hb⟩ : ∃ b, b = Z.pb := ⟨_, rfl⟩
  obtain ⟨i, hpi⟩ : ∃ i, i = Z.pi := ⟨_, rfl⟩
  obtain ⟨ky, hky⟩ : ∃ ky, ky = kw % 4294967296 := ⟨_, rfl⟩
  rw [← hb, ← hpi, ← hky] at hg
  rw [← hb, ← hpi]
  have HG := Lib.hid hg; have HQ := Lib.hid hQ; have HA := Lib.hid ha; have HB := Lib.hid (below1 w (.cells #[.int .i64 0, .int .i64 0] 27))
  clear h hg hi hQ ha hb hpi hky
  go_enter Tryz.func18, Tryz.ntmps18
  go_upto_region 1 with (fail)
  rw [← HQ.out]
  generalize w.alloc (.cells #[.int .i64 0, .int .i64 0] 27) = w1 at *
  go_upto_region 3 with (fail)
  go_upto_region 4 with (go_at_call 48; refine HG.out.mono ?_; rintro e w2 ⟨rfl, hb2⟩; have HB2 := Lib.hid hb2; clear hb2)
  have hb3 : Below w1.heap.size w1 (w2.alloc (.cells #[.int .i64 b, .int .i64 i] 27)) := HB2.out.trans ((below1 w2 (.cells #[.int .i64 b, .int .i64 i] 27)).mono HB2.out.size)
  have l3 := heap_alloc_new w2 (.cells #[.int .i64 b, .int .i64 i] 27)
  obtain ⟨N2, hN2⟩ : ∃ N2, N2 = w2.heap.size := ⟨_, rfl⟩
  rw [← hN2] at l3 ⊢
  have l1 : (w2.alloc (.cells #[.int .i64 b, .int .i64 i] 27)).heap[Q]? = some (.cells #[.int .i64 0, .int .i64 0] 27) := by rw [hb3.block Q (heap_lt HA.out)]; exact HA.out
  have HB3 := Lib.hid hb3
  clear hb3 hN2
  generalize w2.alloc (.cells #[.int .i64 b, .int .i64 i] 27) = w3 at *
  have n0 : w3.cell? ⟨N2, 0, none⟩ = some (.int .i64 b) := cell_row l3 0
  have n1 : w3.cell? ⟨N2, 1, none⟩ = some (.int .i64 i) := cell_row l3 1
  have q0 : w3.cell? ⟨Q, 0, none⟩ = some (.int .i64 0) := cell_row l1 0
  have q1 : w3.cell? ⟨Q, 1, none⟩ = some (.int .i64 0) := cell_row l1 1
  have z0 := froz_row l1 0; have z1 := froz_row l1 1
  have L1 := Lib.hid l1
  clear l1 l3
  go_wp2_with fail
  have l2 : ((w3.setCell ⟨Q, 0, none⟩ (.int .i64 b)).setCell ⟨Q, 1, none⟩ (.int .i64 i)).heap[Q]? = some (.cells #[.int .i64 b, .int .i64 i] 27) := set_blk (set_blk L1.out 0 (.int .i64 b) _ rfl) 1 (.int .i64 i) _ rfl
  have t : Turns (fun k => k = Q) w3 ((w3.setCell ⟨Q, 0, none⟩ (.int .i64 b)).setCell ⟨Q, 1, none⟩ (.int .i64 i)) := ((Turns.refl (fun k => k = Q) w3).setCell ⟨Q, 0, none⟩ _ rfl).setCell ⟨Q, 1, none⟩ _ rfl
  generalize (w3.setCell ⟨Q, 0, none⟩ (.int .i64 b)).setCell ⟨Q, 1, none⟩ (.int .i64 i) = w4 at *
  have p0 : w4.cell? ⟨Q, 0, none⟩ = some (.int .i64 b) := cell_row l2 0
  have p1 : w4.cell? ⟨Q, 1, none⟩ = some (.int .i64 i) := cell_row l2 1
  clear q0 q1 z0 z1 l2 n0 n1 L1
  exact bodyPost_ret (v := plV b i) (by simp [results, Tryz.results18, go_sem, p0, p1]) rfl ⟨rfl, below_turn HB.out HB3.out t HQ.out⟩
end
end Go.Proofs.YtokplfkhpjcfcaaGreat.S15
set_option linter.unusedVariables false
set_option linter.unusedSimpArgs false
namespace Go.Proofs.YtokplfkhpjcfcaaGreat.S15
open Go.Proofs.YtokplfkhpjcfcaaGreat Go.Proofs.YtokplfkhpjcfcaaGreat.S11 Go.Proofs.YtokplfkhpjcfcaaGreat.S12 Go.Proofs.YtokplfkhpjcfcaaGreat.S13 Go.Proofs.YtokplfkhpjcfcaaGreat.S14
open Go.RowKit
structure Ew (w0 w : World) (base WB : Nat) (M : Sd) (r : List Part) (j u : Nat) (E : En) (Z : Wb) (X : Wm) : Prop where
  wy : Wy w0 w base WB M r j E.ow E.t E.kw E.tw Z X
  ju : j ≠ u
  hu : u < r.length
  i : Z.i = (E.at : Int)
  st : Z.st = decide (E.ln = 6)
  k : E.ln = 3 → ∃ U, r[u]? = some (lockP U E.K) ∧ Z.uv = lockU U
  f : E.ln = 6 → ∃ U, r[u]? = some (freeP U E.F) ∧ Z.uv = freeU U
  pl : 3 ≤ E.ln ∨ E.ln = 0 → Z.pb = (bitsN E.tw : Int) ∧ Z.pi = (bktN (E.kw % 4294967296) E.tw : Int)
def EStep (w0 w' : World) (base WB : Nat) (M : Sd) (r : List Part) (j u : Nat) (E : En) (Z : Wb) : Prop :=
  ∃ (q : Part) (Z' : Wb) (X' : Wm), Z'.B = Z.B ∧ Z'.PB = Z.PB ∧ Z'.KB = Z.KB ∧ Z'.TB = Z.TB ∧ Ew w0 w' base WB (enM M E) (r.set u q) j u (enE M E) Z' X'
section
variable {w0 w' : World} {base WB : Nat} {M : Sd} {r : List Part} {j u : Nat} {E E1 : En} {Z Z' : Wb} {X' : Wm} {q : Part}
theorem EStep.mk' (e : enE M E = E1) (h' : Ew w0 w' base WB (enM M E) (r.set u q) j u E1 Z' X') (s : Z'.B = Z.B ∧ Z'.PB = Z.PB ∧ Z'.KB = Z.KB ∧ Z'.TB = Z.TB) : EStep w0 w' base WB M r j u E Z := by
  subst e
  exact ⟨q, Z', X', s.1, s.2.1, s.2.2.1, s.2.2.2, h'⟩
theorem EStep.mk0 (e : enE M E = E1) (h' : Ew w0 w' base WB (enM M E) r j u E1 Z' X') (s : Z'.B = Z.B ∧ Z'.PB = Z.PB ∧ Z'.KB = Z.KB ∧ Z'.TB = Z.TB) : EStep w0 w' base WB M r j u E Z := by
  subst e
  refine ⟨r[u]'h'.hu, Z', X', s.1, s.2.1, s.2.2.1, s.2.2.2, ?_⟩
  rw [set_eq (List.getElem?_eq_getElem h'.hu)]
  exact h'
end
theorem stepK_ok {M : Sd} {K : Lk} (hs : K.st < 18446744073709551616) (hp : 0 ≤ K.sp ∧ K.sp ≤ 16) (ms : 0 ≤ M.sp ∧ M.sp ≤ 16) (hl : S2.look M.L K.a < 18446744073709551616) :
    (stepK M K).t = K.t ∧ (stepK M K).a = K.a ∧ (stepK M K).st < 18446744073709551616 ∧ 0 ≤ (stepK M K).sp ∧ (stepK M K).sp ≤ 16 := by
  have turn : ∀ (K' : Lk) (x : Nat), K'.t = K.t → K'.a = K.a → x < 18446744073709551616 → 0 ≤ K'.sp → K'.sp ≤ 16 → (K'.turn x).t = K.t ∧ (K'.turn x).a = K.a ∧ (K'.turn x).st < 18446744073709551616 ∧ 0 ≤ (K'.turn x).sp ∧ (K'.turn x).sp ≤ 16 := fun K' x e1 e2 hx h1 h2 => by
    unfold Lk.turn
    split
    · exact ⟨e1, e2, hx, h1, h2⟩
    · split
      · split
        · refine ⟨e1, e2, hx, ?_, ?_⟩
          · show 0 ≤ K'.sp - 1; omega
          · show K'.sp - 1 ≤ 16; omega
        · exact ⟨e1, e2, hx, h1, h2⟩
      · exact ⟨e1, e2, hx, h1, h2⟩
  unfold stepK
  split
  · unfold Lk.cas
    split
    · exact ⟨rfl, rfl, hs, ms.1, ms.2⟩
    · exact turn _ _ rfl rfl hl ms.1 ms.2
  · unfold Lk.cas
    split
    · exact ⟨rfl, rfl, hs, hp.1, hp.2⟩
    · exact turn _ _ rfl rfl hl hp.1 hp.2
  · exact turn _ _ rfl rfl hl hp.1 hp.2
  · exact ⟨rfl, rfl, hs, hp.1, hp.2⟩
  · unfold Lk.cas
    split
    · exact ⟨rfl, rfl, hs, hp.1, hp.2⟩
    · exact turn _ _ rfl rfl hl hp.1 hp.2
  · split
    · exact ⟨rfl, rfl, hs, ms.1, ms.2⟩
    · exact ⟨rfl, rfl, hs, hp.1, hp.2⟩
  · exact ⟨rfl, rfl, hs, hp.1, hp.2⟩
theorem EnOk.step {M : Sd} {E : En} (h : EnOk E) (ms : 0 ≤ M.sp ∧ M.sp ≤ 16) (hl : ∀ a, S2.look M.L a < 18446744073709551616) (hk : ∀ i, M.lk i ≤ 64) : EnOk (enE M E) := by
  obtain ⟨o, ln, t, kw, tw, K, F⟩ := E
  have hln := h.ln
  have hen := h.en
  rcases (show ln = 0 ∨ ln = 1 ∨ ln = 2 ∨ ln = 3 ∨ ln = 4 ∨ ln = 5 ∨ ln = 6 from by have : ln ≤ 6 := hln; omega) with rfl | rfl | rfl | rfl | rfl | rfl | rfl
  · exact h
  · exact ⟨by show 2 ≤ 6; omega, fun _ => ⟨by show 2 ≠ 1; omega, by show 2 ≠ 5; omega⟩, h.t, (by have := hl (64 + t); show S2.look M.L (64 + t) % 4294967296 < _; omega), h.tw, h.k6, h.kt, h.ka, h.ks, h.kp, h.f⟩
  · refine ⟨by show 3 ≤ 6; omega, fun _ => ⟨by show 3 ≠ 1; omega, by show 3 ≠ 5; omega⟩, h.t, h.kw, hl _, by show 1 ≤ 6; omega, h.t, ?_, by show 0 < _; omega, ⟨by show (0 : Int) ≤ 0; omega, by show (0 : Int) ≤ 16; omega⟩, h.f⟩
    have := lok_in (kw % 4294967296) (S2.look M.L 0)
    show lokN (kw % 4294967296) (S2.look M.L 0) < _
    omega
  · obtain ⟨k1, k2, k3, k4, k5⟩ := stepK_ok (M := M) (K := K) h.ks h.kp ms (hl _)
    have e : enE M ⟨o, 3, t, kw, tw, K, F⟩ = ⟨o, if (stepK M K).ln = 0 then 4 else 3, t, kw, tw, stepK M K, F⟩ := rfl
    rw [e]
    refine ⟨?_, fun _ => ⟨?_, ?_⟩, h.t, h.kw, h.tw, step_le h.k6, by show (stepK M K).t < 64; rw [k1]; exact h.kt, by show (stepK M K).a < _; rw [k2]; exact h.ka, k3, ⟨k4, k5⟩, h.f⟩
    · show (if (stepK M K).ln = 0 then 4 else 3) ≤ 6; split <;> omega
    · show (if (stepK M K).ln = 0 then 4 else 3) ≠ 1; split <;> omega
    · show (if (stepK M K).ln = 0 then 4 else 3) ≠ 5; split <;> omega
  · by_cases hx : S2.look M.L 0 = tw
    · have e : enE M ⟨o, 4, t, kw, tw, K, F⟩ = ⟨o, if o then 5 else 0, t, kw, tw, K, F⟩ := if_pos hx
      rw [e]
      cases o
      · exact ⟨by show 0 ≤ 6; omega, fun _ => ⟨by show 0 ≠ 1; omega, by show 0 ≠ 5; omega⟩, h.t, h.kw, h.tw, h.k6, h.kt, h.ka, h.ks, h.kp, h.f⟩
      · exact ⟨by show 5 ≤ 6; omega, (fun e => by cases e), h.t, h.kw, h.tw, h.k6, h.kt, h.ka, h.ks, h.kp, h.f⟩
    · have e : enE M ⟨o, 4, t, kw, tw, K, F⟩ = ⟨o, 6, t, kw, tw, K, fr0 (lokN (kw % 4294967296) tw)⟩ := if_neg hx
      rw [e]
      have := lok_in (kw % 4294967296) tw
      exact ⟨by show 6 ≤ 6; omega, fun _ => ⟨by show 6 ≠ 1; omega, by show 6 ≠ 5; omega⟩, h.t, h.kw, h.tw, h.k6, h.kt, h.ka, h.ks, h.kp, fok_new (by omega)⟩
  · cases o
    · exact absurd rfl (hen rfl).2
    by_cases hx : S2.look M.L (64 + t) % 4294967296 = kw
    · have e : enE M ⟨true, 5, t, kw, tw, K, F⟩ = ⟨true, 0, t, kw, tw, K, F⟩ := if_pos hx
      rw [e]
      exact ⟨by show 0 ≤ 6; omega, (fun e => by cases e), h.t, h.kw, h.tw, h.k6, h.kt, h.ka, h.ks, h.kp, h.f⟩
    · have e : enE M ⟨true, 5, t, kw, tw, K, F⟩ = ⟨true, 6, t, kw, tw, K, fr0 (lokN (kw % 4294967296) tw)⟩ := if_neg hx
      rw [e]
      have := lok_in (kw % 4294967296) tw
      exact ⟨by show 6 ≤ 6; omega, (fun e => by cases e), h.t, h.kw, h.tw, h.k6, h.kt, h.ka, h.ks, h.kp, fok_new (by omega)⟩
  · have e : enE M ⟨o, 6, t, kw, tw, K, F⟩ = ⟨o, if (fstepK M F).ln = 0 then (if o then 1 else 2) else 6, t, kw, tw, K, fstepK M F⟩ := rfl
    rw [e]
    refine ⟨?_, fun ho => ?_, h.t, h.kw, h.tw, h.k6, h.kt, h.ka, h.ks, h.kp, h.f.step hl hk⟩
    · show (if (fstepK M F).ln = 0 then (if o then 1 else 2) else 6) ≤ 6
      split
      · split <;> omega
      · omega
    · have ho' : o = false := ho
      subst ho'
      refine ⟨?_, ?_⟩
      · show (if (fstepK M F).ln = 0 then 2 else 6) ≠ 1; split <;> omega
      · show (if (fstepK M F).ln = 0 then 2 else 6) ≠ 5; split <;> omega
theorem EnOk.lok {M : Sd} {E : En} (h : EnOk E) (ms : 0 ≤ M.sp ∧ M.sp ≤ 16) (hn : M.n ≤ 1000000000) (hp : M.pn ≤ 1000000000) : LkOk M E.K := ⟨h.kt, h.ka, h.ks, h.kp, ms, hn, hp⟩
section
variable {w0 w w' : World} {base WB : Nat} {M : Sd} {r : List Part} {j u U : Nat} {E : En} {Z : Wb} {X : Wm}
theorem Ew.look (h : Ew w0 w base WB M r j u E Z X) (a : Nat) : S2.look M.L a < 18446744073709551616 := h.wy.look a
theorem Ew.new (h : Ew w0 w base WB M r j u E Z X) (b : Below w.heap.size w w') : Ew w0 w' base WB M r j u E Z X := ⟨h.wy.new b, h.ju, h.hu, h.i, h.st, h.k, h.f, h.pl⟩
theorem same_at (hu : u < r.length) : ∃ q, r.set u q = r := ⟨r[u], set_eq (List.getElem?_eq_getElem hu)⟩
theorem lok_z (h : Ew w0 w base WB M r j u E Z X) (hl : 3 ≤ E.ln ∨ E.ln = 0) : S10.lockZ Z.pb Z.pi = (E.a : Int) := by
  obtain ⟨e1, e2⟩ := h.pl hl
  rw [e1, e2]
  exact lok_lock _ _
theorem way_step (h : Ew w0 w base WB M r j u E Z X) (ok : EnOk E) (ms : 0 ≤ M.sp ∧ M.sp ≤ 16) (hn : M.n ≤ 1000000000) (hp : M.pn ≤ 1000000000) (h0 : E.ln ≠ 0) :
    Calls Tryz.prog 50 #[Pw Z.B, Pw WB] w fun e w' => e = .returned (.tuple #[]) ∧ EStep w0 w' base WB M r j u E Z := by
  obtain ⟨o, ln, t, kw, tw, K, F⟩ := E
  have hju := h.ju; have hu := h.hu; have hi := h.i; have hs := h.st; have wy := h.wy
  have ht : t < 64 := ok.t; have hkw : kw < 18446744073709551616 := ok.kw; have htw : tw < 18446744073709551616 := ok.tw
  have hk := h.k; have hf := h.f
  have hln : ln ≤ 6 := ok.ln
  have h0' : ln ≠ 0 := h0
  obtain ⟨q0, hq0⟩ := same_at hu
  cases o
  · have hen := ok.en rfl
    rcases (show ln = 2 ∨ ln = 3 ∨ ln = 4 ∨ ln = 6 from by have a1 : ln ≠ 1 := hen.1; have a2 : ln ≠ 5 := hen.2; omega) with rfl | rfl | rfl | rfl
    · refine (wstep_e2 wy hi hs hju hu ht hkw hn rfl).mono ?_
      rintro e w' ⟨rfl, UB, X', h'⟩
      exact ⟨rfl, EStep.mk' rfl ⟨h', hju, by rw [List.length_set]; exact hu, rfl, hs, fun _ => ⟨UB, List.getElem?_set_self hu, rfl⟩, fun e => absurd e (by show ¬ 3 = 6; omega), fun _ => ⟨rfl, rfl⟩⟩ ⟨rfl, rfl, rfl, rfl⟩⟩
    · obtain ⟨U, hq, huv⟩ := hk rfl
      by_cases hov : (stepK M K).ln = 0
      · refine (wstep_e3y wy hi hs hju hq huv (ok.lok ms hn hp) ok.k6 hov).mono ?_
        rintro e w' ⟨rfl, X', h'⟩
        have e1 : enE M ⟨false, 3, t, kw, tw, K, F⟩ = ⟨false, 4, t, kw, tw, stepK M K, F⟩ := by show (⟨false, if (stepK M K).ln = 0 then 4 else 3, t, kw, tw, stepK M K, F⟩ : En) = _; rw [if_pos hov]
        exact ⟨rfl, EStep.mk' e1 ⟨h', hju, by rw [List.length_set]; exact hu, rfl, hs, fun e => absurd e (by show ¬ 4 = 3; omega), fun e => absurd e (by show ¬ 4 = 6; omega), fun _ => h.pl (.inl (by show 3 ≤ 3; omega))⟩ ⟨rfl, rfl, rfl, rfl⟩⟩
      · refine (wstep_e3n wy hi hs hju hq huv (ok.lok ms hn hp) ok.k6 hov).mono ?_
        rintro e w' ⟨rfl, X', h'⟩
        have e1 : enE M ⟨false, 3, t, kw, tw, K, F⟩ = ⟨false, 3, t, kw, tw, stepK M K, F⟩ := by show (⟨false, if (stepK M K).ln = 0 then 4 else 3, t, kw, tw, stepK M K, F⟩ : En) = _; rw [if_neg hov]
        exact ⟨rfl, EStep.mk' e1 ⟨h', hju, by rw [List.length_set]; exact hu, hi, hs, fun _ => ⟨U, List.getElem?_set_self hu, huv⟩, fun e => absurd e (by show ¬ 3 = 6; omega), fun _ => h.pl (.inl (by show 3 ≤ 3; omega))⟩ ⟨rfl, rfl, rfl, rfl⟩⟩
    · by_cases hx : S2.look M.L 0 = tw
      · refine (wstep_e4y wy hi hs hn rfl hx).mono ?_
        rintro e w' ⟨rfl, X', h'⟩
        have e1 : enE M ⟨false, 4, t, kw, tw, K, F⟩ = ⟨false, 0, t, kw, tw, K, F⟩ := if_pos hx
        exact ⟨rfl, EStep.mk0 e1 ⟨h', hju, hu, rfl, rfl, fun e => absurd e (by show ¬ 0 = 3; omega), fun e => absurd e (by show ¬ 0 = 6; omega), fun _ => h.pl (.inl (by show 3 ≤ 4; omega))⟩ ⟨rfl, rfl, rfl, rfl⟩⟩
      · refine (wstep_e4n wy hi hs hju hu hn rfl hx (lok_z h (.inl (by show 3 ≤ 4; omega)))).mono ?_
        rintro e w' ⟨rfl, UB, X', h'⟩
        have e1 : enE M ⟨false, 4, t, kw, tw, K, F⟩ = ⟨false, 6, t, kw, tw, K, fr0 (lokN (kw % 4294967296) tw)⟩ := if_neg hx
        exact ⟨rfl, EStep.mk' e1 ⟨h', hju, by rw [List.length_set]; exact hu, rfl, rfl, fun e => absurd e (by show ¬ 6 = 3; omega), fun _ => ⟨UB, List.getElem?_set_self hu, rfl⟩, fun _ => h.pl (.inl (by show 3 ≤ 4; omega))⟩ ⟨rfl, rfl, rfl, rfl⟩⟩
    · obtain ⟨U, hq, huv⟩ := hf rfl
      by_cases hov : (fstepK M F).ln = 0
      · refine (wstep_e6y wy hi hs hju hq huv (ok.f.ok hn hp) ok.f.ln hov).mono ?_
        rintro e w' ⟨rfl, X', h'⟩
        have e1 : enE M ⟨false, 6, t, kw, tw, K, F⟩ = ⟨false, 2, t, kw, tw, K, fstepK M F⟩ := by show (⟨false, if (fstepK M F).ln = 0 then 2 else 6, t, kw, tw, K, fstepK M F⟩ : En) = _; rw [if_pos hov]
        exact ⟨rfl, EStep.mk' e1 ⟨h', hju, by rw [List.length_set]; exact hu, rfl, rfl, fun e => absurd e (by show ¬ 2 = 3; omega), fun e => absurd e (by show ¬ 2 = 6; omega), fun e => absurd e (by show ¬ (3 ≤ 2 ∨ 2 = 0); omega)⟩ ⟨rfl, rfl, rfl, rfl⟩⟩
      · refine (wstep_e6n wy hi hs hju hq huv (ok.f.ok hn hp) ok.f.ln hov).mono ?_
        rintro e w' ⟨rfl, X', h'⟩
        have e1 : enE M ⟨false, 6, t, kw, tw, K, F⟩ = ⟨false, 6, t, kw, tw, K, fstepK M F⟩ := by show (⟨false, if (fstepK M F).ln = 0 then 2 else 6, t, kw, tw, K, fstepK M F⟩ : En) = _; rw [if_neg hov]
        exact ⟨rfl, EStep.mk' e1 ⟨h', hju, by rw [List.length_set]; exact hu, hi, hs, fun e => absurd e (by show ¬ 6 = 3; omega), fun _ => ⟨U, List.getElem?_set_self hu, huv⟩, fun _ => h.pl (.inl (by show 3 ≤ 6; omega))⟩ ⟨rfl, rfl, rfl, rfl⟩⟩
  · rcases (show ln = 1 ∨ ln = 2 ∨ ln = 3 ∨ ln = 4 ∨ ln = 5 ∨ ln = 6 from by omega) with rfl | rfl | rfl | rfl | rfl | rfl
    · refine (wstep_o1 wy hi hs ht hn rfl).mono ?_
      rintro e w' ⟨rfl, X', h'⟩
      exact ⟨rfl, EStep.mk0 rfl ⟨h', hju, hu, rfl, hs, fun e => absurd e (by show ¬ 2 = 3; omega), fun e => absurd e (by show ¬ 2 = 6; omega), fun e => absurd e (by show ¬ (3 ≤ 2 ∨ 2 = 0); omega)⟩ ⟨rfl, rfl, rfl, rfl⟩⟩
    · refine (wstep_o2 wy hi hs hju hu ht hkw hn rfl).mono ?_
      rintro e w' ⟨rfl, UB, X', h'⟩
      exact ⟨rfl, EStep.mk' rfl ⟨h', hju, by rw [List.length_set]; exact hu, rfl, hs, fun _ => ⟨UB, List.getElem?_set_self hu, rfl⟩, fun e => absurd e (by show ¬ 3 = 6; omega), fun _ => ⟨rfl, rfl⟩⟩ ⟨rfl, rfl, rfl, rfl⟩⟩
    · obtain ⟨U, hq, huv⟩ := hk rfl
      by_cases hov : (stepK M K).ln = 0
      · refine (wstep_o3y wy hi hs hju hq huv (ok.lok ms hn hp) ok.k6 hov).mono ?_
        rintro e w' ⟨rfl, X', h'⟩
        have e1 : enE M ⟨true, 3, t, kw, tw, K, F⟩ = ⟨true, 4, t, kw, tw, stepK M K, F⟩ := by show (⟨true, if (stepK M K).ln = 0 then 4 else 3, t, kw, tw, stepK M K, F⟩ : En) = _; rw [if_pos hov]
        exact ⟨rfl, EStep.mk' e1 ⟨h', hju, by rw [List.length_set]; exact hu, rfl, hs, fun e => absurd e (by show ¬ 4 = 3; omega), fun e => absurd e (by show ¬ 4 = 6; omega), fun _ => h.pl (.inl (by show 3 ≤ 3; omega))⟩ ⟨rfl, rfl, rfl, rfl⟩⟩
      · refine (wstep_o3n wy hi hs hju hq huv (ok.lok ms hn hp) ok.k6 hov).mono ?_
        rintro e w' ⟨rfl, X', h'⟩
        have e1 : enE M ⟨true, 3, t, kw, tw, K, F⟩ = ⟨true, 3, t, kw, tw, stepK M K, F⟩ := by show (⟨true, if (stepK M K).ln = 0 then 4 else 3, t, kw, tw, stepK M K, F⟩ : En) = _; rw [if_neg hov]
        exact ⟨rfl, EStep.mk' e1 ⟨h', hju, by rw [List.length_set]; exact hu, hi, hs, fun _ => ⟨U, List.getElem?_set_self hu, huv⟩, fun e => absurd e (by show ¬ 3 = 6; omega), fun _ => h.pl (.inl (by show 3 ≤ 3; omega))⟩ ⟨rfl, rfl, rfl, rfl⟩⟩
    · by_cases hx : S2.look M.L 0 = tw
      · refine (wstep_o4y wy hi hs hn rfl hx).mono ?_
        rintro e w' ⟨rfl, X', h'⟩
        have e1 : enE M ⟨true, 4, t, kw, tw, K, F⟩ = ⟨true, 5, t, kw, tw, K, F⟩ := if_pos hx
        exact ⟨rfl, EStep.mk0 e1 ⟨h', hju, hu, rfl, rfl, fun e => absurd e (by show ¬ 5 = 3; omega), fun e => absurd e (by show ¬ 5 = 6; omega), fun _ => h.pl (.inl (by show 3 ≤ 4; omega))⟩ ⟨rfl, rfl, rfl, rfl⟩⟩
      · refine (wstep_o4n wy hi hs hju hu hn rfl hx (lok_z h (.inl (by show 3 ≤ 4; omega)))).mono ?_
        rintro e w' ⟨rfl, UB, X', h'⟩
        have e1 : enE M ⟨true, 4, t, kw, tw, K, F⟩ = ⟨true, 6, t, kw, tw, K, fr0 (lokN (kw % 4294967296) tw)⟩ := if_neg hx
        exact ⟨rfl, EStep.mk' e1 ⟨h', hju, by rw [List.length_set]; exact hu, rfl, rfl, fun e => absurd e (by show ¬ 6 = 3; omega), fun _ => ⟨UB, List.getElem?_set_self hu, rfl⟩, fun _ => h.pl (.inl (by show 3 ≤ 4; omega))⟩ ⟨rfl, rfl, rfl, rfl⟩⟩
    · by_cases hx : S2.look M.L (64 + t) % 4294967296 = kw
      · refine (wstep_o5y wy hi hs ht hn rfl hx).mono ?_
        rintro e w' ⟨rfl, X', h'⟩
        have e1 : enE M ⟨true, 5, t, kw, tw, K, F⟩ = ⟨true, 0, t, kw, tw, K, F⟩ := if_pos hx
        exact ⟨rfl, EStep.mk0 e1 ⟨h', hju, hu, rfl, rfl, fun e => absurd e (by show ¬ 0 = 3; omega), fun e => absurd e (by show ¬ 0 = 6; omega), fun _ => h.pl (.inl (by show 3 ≤ 5; omega))⟩ ⟨rfl, rfl, rfl, rfl⟩⟩
      · refine (wstep_o5n wy hi hs hju hu ht hn rfl hx (lok_z h (.inl (by show 3 ≤ 5; omega)))).mono ?_
        rintro e w' ⟨rfl, UB, X', h'⟩
        have e1 : enE M ⟨true, 5, t, kw, tw, K, F⟩ = ⟨true, 6, t, kw, tw, K, fr0 (lokN (kw % 4294967296) tw)⟩ := if_neg hx
        exact ⟨rfl, EStep.mk' e1 ⟨h', hju, by rw [List.length_set]; exact hu, rfl, rfl, fun e => absurd e (by show ¬ 6 = 3; omega), fun _ => ⟨UB, List.getElem?_set_self hu, rfl⟩, fun _ => h.pl (.inl (by show 3 ≤ 5; omega))⟩ ⟨rfl, rfl, rfl, rfl⟩⟩
    · obtain ⟨U, hq, huv⟩ := hf rfl
      by_cases hov : (fstepK M F).ln = 0
      · refine (wstep_o6y wy hi hs hju hq huv (ok.f.ok hn hp) ok.f.ln hov).mono ?_
        rintro e w' ⟨rfl, X', h'⟩
        have e1 : enE M ⟨true, 6, t, kw, tw, K, F⟩ = ⟨true, 1, t, kw, tw, K, fstepK M F⟩ := by show (⟨true, if (fstepK M F).ln = 0 then 1 else 6, t, kw, tw, K, fstepK M F⟩ : En) = _; rw [if_pos hov]
        exact ⟨rfl, EStep.mk' e1 ⟨h', hju, by rw [List.length_set]; exact hu, rfl, rfl, fun e => absurd e (by show ¬ 1 = 3; omega), fun e => absurd e (by show ¬ 1 = 6; omega), fun e => absurd e (by show ¬ (3 ≤ 1 ∨ 1 = 0); omega)⟩ ⟨rfl, rfl, rfl, rfl⟩⟩
      · refine (wstep_o6n wy hi hs hju hq huv (ok.f.ok hn hp) ok.f.ln hov).mono ?_
        rintro e w' ⟨rfl, X', h'⟩
        have e1 : enE M ⟨true, 6, t, kw, tw, K, F⟩ = ⟨true, 6, t, kw, tw, K, fstepK M F⟩ := by show (⟨true, if (fstepK M F).ln = 0 then 1 else 6, t, kw, tw, K, fstepK M F⟩ : En) = _; rw [if_neg hov]
        exact ⟨rfl, EStep.mk' e1 ⟨h', hju, by rw [List.length_set]; exact hu, hi, hs, fun e => absurd e (by show ¬ 6 = 3; omega), fun _ => ⟨U, List.getElem?_set_self hu, huv⟩, fun _ => h.pl (.inl (by show 3 ≤ 6; omega))⟩ ⟨rfl, rfl, rfl, rfl⟩⟩
end
end Go.Proofs.YtokplfkhpjcfcaaGreat.S15
set_option linter.unusedVariables false
set_option linter.unusedSimpArgs false
namespace Go.Proofs.YtokplfkhpjcfcaaGreat.S15
set_option maxRecDepth 100000
set_option maxHeartbeats 16000000
open Go.Proofs.YtokplfkhpjcfcaaGreat Go.Proofs.YtokplfkhpjcfcaaGreat.S11 Go.Proofs.YtokplfkhpjcfcaaGreat.S12 Go.Proofs.YtokplfkhpjcfcaaGreat.S13 Go.Proofs.YtokplfkhpjcfcaaGreat.S14
open Go.RowKit
theorem m_estep (a : Addr) (w : World) : (method 468 59 (.pointer (some a)) "Step").run Tryz.prog w = .ok (17, .pointer (some a)) w := by kernel_rfl
theorem at_over {E : En} (ok : EnOk E) : decide ((nPart E.ow : Int) ≤ (E.at : Int)) = decide (E.ln = 0) := by
  obtain ⟨o, ln, t, kw, tw, K, F⟩ := E
  have hln : ln ≤ 6 := ok.ln
  have hen := ok.en
  cases o
  · have h1 : ln ≠ 1 := (hen rfl).1
    have h5 : ln ≠ 5 := (hen rfl).2
    rcases (show ln = 0 ∨ ln = 2 ∨ ln = 3 ∨ ln = 4 ∨ ln = 6 from by omega) with rfl | rfl | rfl | rfl | rfl <;> rfl
  · rcases (show ln = 0 ∨ ln = 1 ∨ ln = 2 ∨ ln = 3 ∨ ln = 4 ∨ ln = 5 ∨ ln = 6 from by omega) with rfl | rfl | rfl | rfl | rfl | rfl | rfl <;> rfl
section
variable {w0 w w' : World} {base WB : Nat} {M : Sd} {r : List Part} {j u U : Nat} {E : En} {Z : Wb} {X : Wm}
theorem Ew.eover (h : Ew w0 w base WB M r j u E Z X) (ok : EnOk E) : Calls Tryz.prog 16 #[Pw Z.B] w fun e w' => e = .returned (.bool (decide (E.ln = 0))) ∧ Below w.heap.size w w' := by
  have := eover_any h.wy
  rwa [h.i, at_over ok] at this
theorem over_same {E : En} {M : Sd} (h : E.ln = 0) : enM M E = M ∧ enE M E = E := by
  unfold enM enE
  rw [h]
  exact ⟨rfl, rfl⟩
theorem estep_any (h : Ew w0 w base WB M r j u E Z X) (ok : EnOk E) (ms : 0 ≤ M.sp ∧ M.sp ≤ 16) (hn : M.n ≤ 1000000000) (hp : M.pn ≤ 1000000000) :
    Calls Tryz.prog 17 #[Pw Z.B, Pw WB] w fun e w' => e = .returned (.bool (decide ((enE M E).ln = 0))) ∧ EStep w0 w' base WB M r j u E Z := by
  by_cases h0 : E.ln = 0
  · obtain ⟨e1, e2⟩ := over_same (M := M) h0
    have hov := fun (W : World) (hb : Below w.heap.size w W) => (h.new hb).eover ok
    rw [decide_eq_true h0] at hov
    obtain ⟨q0, hq0⟩ := same_at h.hu
    have hfin : ∀ W, Below w.heap.size w W → EStep w0 W base WB M r j u E Z := fun W hb => by
      refine ⟨q0, Z, X, rfl, rfl, rfl, rfl, ?_⟩
      rw [e1, e2, hq0]
      exact h.new hb
    have hd : decide ((enE M E).ln = 0) = true := by rw [e2]; exact decide_eq_true h0
    rw [hd]
    have HOV := Lib.hid hov; have HF := Lib.hid hfin
    clear h ok ms hn hp h0 e1 e2 hov hq0 hfin hd
    go_enter Tryz.func17, Tryz.ntmps17
    go_upto_region 3 with (go_at_call 16; refine (HOV.out _ (Below.refl _ _)).mono ?_; rintro e w2 ⟨rfl, hb2⟩)
    have HB2 := Lib.hid hb2
    clear hb2
    go_wp2_with (go_at_call 16; refine (HOV.out _ HB2.out).mono ?_; rintro e w3 ⟨rfl, hb3⟩; have HB3 := Lib.hid hb3; clear hb3)
    go_ret
    exact ⟨rfl, HF.out _ (HB2.out.trans (HB3.out.mono HB2.out.size))⟩
  · have hov := h.eover ok
    rw [decide_eq_false h0] at hov
    have hst := fun (W : World) (hb : Below w.heap.size w W) => way_step (h.new hb) ok ms hn hp h0
    have hov2 : ∀ W, EStep w0 W base WB M r j u E Z → Calls Tryz.prog 16 #[Pw Z.B] W fun e w' => e = .returned (.bool (decide ((enE M E).ln = 0))) ∧ EStep w0 w' base WB M r j u E Z := fun W ⟨q, Z', X', e1, e2, e3, e4, h'⟩ => by
      have := h'.eover (ok.step ms h.look (fun k => pg_le h.wy.pg k))
      rw [e1] at this
      refine this.mono ?_
      rintro e w' ⟨rfl, hb⟩
      exact ⟨rfl, q, Z', X', e1, e2, e3, e4, h'.new hb⟩
    have HOV := Lib.hid hov; have HST := Lib.hid hst; have HOV2 := Lib.hid hov2
    clear h ok ms hn hp h0 hov hst hov2
    generalize decide ((enE M E).ln = 0) = b at *
    go_enter Tryz.func17, Tryz.ntmps17
    go_upto_region 2 with (go_at_call 16; refine HOV.out.mono ?_; rintro e w2 ⟨rfl, hb2⟩; have HB2 := Lib.hid hb2; clear hb2)
    go_upto_region 3 with (go_at_call 50; refine (HST.out _ HB2.out).mono ?_; rintro e w3 ⟨rfl, hs⟩; have HS := Lib.hid hs; clear hs)
    go_wp2_with (go_at_call 16; refine (HOV2.out _ HS.out).mono ?_; rintro e w4 ⟨rfl, hs⟩; have HS4 := Lib.hid hs; clear hs)
    go_ret
    exact ⟨rfl, HS4.out⟩
def eit (p : Sd × En) : Sd × En := (enM p.1 p.2, enE p.1 p.2)
def eitn (p : Sd × En) : Nat → Sd × En
  | 0 => p
  | n + 1 => eit (eitn p n)
theorem stepM_n (M : Sd) (K : Lk) : (stepM M K).n ≤ M.n + 1 ∧ (stepM M K).pn ≤ M.pn + 1 ∧ (stepM M K).sp = M.sp := by
  unfold stepM
  split <;> simp [Sd.acc, Sd.link, Sd.prep, Sd.park, Sd.call]
theorem fstepM_sp (M : Sd) (K : Fr) : (fstepM M K).sp = M.sp := by
  unfold fstepM
  split <;> (try split) <;> simp [Sd.acc, Sd.link, Sd.unpark, Sd.call]
theorem enM_n (M : Sd) (E : En) : (enM M E).n ≤ M.n + 1 ∧ (enM M E).pn ≤ M.pn + 1 ∧ (enM M E).sp = M.sp := by
  unfold enM
  split
  · exact ⟨Nat.le_refl _, Nat.le_succ _, rfl⟩
  · exact ⟨Nat.le_refl _, Nat.le_succ _, rfl⟩
  · exact stepM_n M E.K
  · exact ⟨Nat.le_refl _, Nat.le_succ _, rfl⟩
  · exact ⟨Nat.le_refl _, Nat.le_succ _, rfl⟩
  · have := fstepM_n M E.F; exact ⟨this.1, this.2, fstepM_sp M E.F⟩
  · exact ⟨Nat.le_succ _, Nat.le_succ _, rfl⟩
theorem enE_ow (M : Sd) (E : En) : (enE M E).ow = E.ow ∧ (enE M E).t = E.t := by
  unfold enE
  split <;> (try split) <;> exact ⟨rfl, rfl⟩
theorem eitn_n (p : Sd × En) : ∀ n, (eitn p n).1.n ≤ p.1.n + n ∧ (eitn p n).1.pn ≤ p.1.pn + n ∧ (eitn p n).1.sp = p.1.sp ∧ (eitn p n).2.ow = p.2.ow
  | 0 => ⟨Nat.le_refl _, Nat.le_refl _, rfl, rfl⟩
  | n + 1 => by
    have h := eitn_n p n
    have g := enM_n (eitn p n).1 (eitn p n).2
    have g2 := enE_ow (eitn p n).1 (eitn p n).2
    exact ⟨by show (enM _ _).n ≤ _; omega, by show (enM _ _).pn ≤ _; omega, g.2.2.trans h.2.2.1, g2.1.trans h.2.2.2⟩
theorem run_e (h : Ew w0 w base WB M r j u E Z X) (ok : EnOk E) (ms : 0 ≤ M.sp ∧ M.sp ≤ 16) (n most : Nat) (hn0 : 0 < n) (hnm : n ≤ most) (hm : most ≤ 100) (hMn : M.n ≤ 900000000) (hMp : M.pn ≤ 900000000)
    (hpos : ∀ i, i < n → (eitn (M, E) i).2.ln ≠ 0) (hend : (eitn (M, E) n).2.ln = 0) :
    Calls Tryz.prog 63 #[Pw WB, .iface 59 (Pw Z.B), .int .i64 (most : Int)] w fun e w' => e = .returned (.int .i64 (n : Int)) ∧ ∃ q Z' X', Z'.B = Z.B ∧ Ew w0 w' base WB (eitn (M, E) n).1 (r.set u q) j u (eitn (M, E) n).2 Z' X' := by
  have hm1 := m_estep ⟨Z.B, 0, none⟩
  have hstep : ∀ (M' : Sd) (E' : En) (r' : List Part) (Z' : Wb) (X' : Wm) (W : World), Z'.B = Z.B → Ew w0 W base WB M' r' j u E' Z' X' → EnOk E' → (0 ≤ M'.sp ∧ M'.sp ≤ 16) → M'.n ≤ 1000000000 → M'.pn ≤ 1000000000 →
      Calls Tryz.prog 17 #[Pw Z.B, Pw WB] W fun e w' => e = .returned (.bool (decide ((enE M' E').ln = 0))) ∧ EStep w0 w' base WB M' r' j u E' Z' := fun M' E' r' Z' X' W eB h' ok' ms' n1 n2 => by
    rw [← eB]
    exact estep_any h' ok' ms' n1 n2
  have HST := Lib.hid hstep
  have H := Lib.hid (And.intro h ok); have HP := Lib.hid (And.intro hpos hend); have HB := Lib.hid (And.intro hn0 (And.intro hnm (And.intro hm (And.intro hMn (And.intro hMp ms)))))
  clear h ok hpos hend hn0 hnm hm hMn hMp ms hstep
  go_enter Tryz.func63, Tryz.ntmps63
  go_wp2_with fail
  go_loopg [7] n (fun q s7 wx => ∃ i : Nat, i < n ∧ q = n - i ∧ s7 = .int .i64 ((i + 1 : Nat) : Int) ∧ EnOk (eitn (M, E) i).2 ∧ ∃ q Z' X', Z'.B = Z.B ∧ Ew w0 wx base WB (eitn (M, E) i).1 (r.set u q) j u (eitn (M, E) i).2 Z' X')
  case atStart =>
    obtain ⟨q0, hq0⟩ := same_at H.out.1.hu
    refine ⟨0, HB.out.1, by omega, rfl, H.out.2, q0, Z, X, rfl, ?_⟩
    rw [hq0]; exact H.out.1
  case round =>
    obtain ⟨i, hi, rfl, rfl, hok, q, Z', X2, hzb, hw⟩ := hrel
    have hb := eitn_n (M, E) i
    have hsp : 0 ≤ (eitn (M, E) i).1.sp ∧ (eitn (M, E) i).1.sp ≤ 16 := by rw [hb.2.2.1]; exact HB.out.2.2.2.2.2
    have hst := HST.out _ _ _ _ _ _ hzb hw hok hsp (by have := HB.out; have h1 : (M, E).1.n = M.n := rfl; omega) (by have := HB.out; have h1 : (M, E).1.pn = M.pn := rfl; omega)
    have hok2 := hok.step hsp hw.look (fun k => pg_le hw.wy.pg k)
    have hle : ((i + 1 : Nat) : Int) ≤ (most : Int) := by have := HB.out; omega
    have d1 : decide (((i + 1 : Nat) : Int) ≤ (most : Int)) = true := decide_eq_true hle
    have hfin : ∀ W, EStep w0 W base WB (eitn (M, E) i).1 (r.set u q) j u (eitn (M, E) i).2 Z' → ∃ q Z' X', Z'.B = Z.B ∧ Ew w0 W base WB (eitn (M, E) (i + 1)).1 (r.set u q) j u (eitn (M, E) (i + 1)).2 Z' X' := fun W ⟨q2, Z2, X3, e1, _, _, _, h3⟩ => by
      rw [List.set_set] at h3
      exact ⟨q2, Z2, X3, e1.trans hzb, h3⟩
    have HF := Lib.hid hfin
    have HOK2 := Lib.hid hok2; have HI := Lib.hid hi
    by_cases he : i + 1 = n
    · have e0 : (enE (eitn (M, E) i).1 (eitn (M, E) i).2).ln = 0 := by
        have := HP.out.2
        rw [← he] at this
        exact this
      rw [decide_eq_true e0] at hst
      have HST2 := Lib.hid hst; have HE := Lib.hid he
      clear hst hw hok hok2 hb e0 he hi hsp hfin hzb
      go_wp2_with (go_at_call 17; refine HST2.out.mono ?_; rintro e w6 ⟨rfl, hs⟩)
      go_ret
      refine ⟨by rw [← HE.out]; simp, ?_⟩
      have := HF.out _ hs
      rw [HE.out] at this
      exact this
    · have e0 : ¬ (enE (eitn (M, E) i).1 (eitn (M, E) i).2).ln = 0 := HP.out.1 (i + 1) (by have := HI.out; omega)
      rw [decide_eq_false e0] at hst
      have HST2 := Lib.hid hst; have HE := Lib.hid he
      have hm9 : i + 1 ≤ 100 := by have := HB.out; omega
      clear hst hw hok hok2 hb e0 he hi hsp hfin hzb
      go_wp2_with (go_at_call 17; refine HST2.out.mono ?_; rintro e w6 ⟨rfl, hs⟩)
      go_roundg (n - (i + 1))
      case measure => have := HI.out; omega
      case rel => exact ⟨i + 1, by have := HI.out; have := HE.out; omega, rfl, by go_num, HOK2.out, HF.out _ hs⟩
end
end Go.Proofs.YtokplfkhpjcfcaaGreat.S15
set_option linter.unusedVariables false
set_option linter.unusedSimpArgs false
namespace Go.Proofs.YtokplfkhpjcfcaaGreat.S15
set_option maxRecDepth 100000
set_option maxHeartbeats 16000000
open Go.Proofs.YtokplfkhpjcfcaaGreat Go.Proofs.YtokplfkhpjcfcaaGreat.S11 Go.Proofs.YtokplfkhpjcfcaaGreat.S12 Go.Proofs.YtokplfkhpjcfcaaGreat.S13 Go.Proofs.YtokplfkhpjcfcaaGreat.S14
open Go.RowKit
def NewE (w w' : World) (o : Bool) (t kw : Nat) (v : Value) : Prop :=
  ∃ Z : Wb, v = Pw Z.B ∧ WayAt w' o t kw 0 Z ∧ Below w.heap.size w w' ∧ Z.i = 0 ∧ Z.st = false ∧ (w.heap.size ≤ Z.B ∧ w.heap.size ≤ Z.PB ∧ w.heap.size ≤ Z.KB ∧ w.heap.size ≤ Z.TB)
theorem alloc_lt {w : World} {ob : Obj} {B : Nat} (h : B < w.heap.size) : (w.alloc ob).heap[B]? = w.heap[B]? := Below.heap_alloc _ _ _ h
theorem alloc_size (w : World) (ob : Obj) : (w.alloc ob).heap.size = w.heap.size + 1 := by simp
theorem alloc_at {w : World} {ob : Obj} {B : Nat} (h : B = w.heap.size) : (w.alloc ob).heap[B]? = some ob := by
  subst h
  exact heap_alloc_new w ob
theorem new_enter (t key : Nat) (ht : t < 64) (hk : key < 4294967296) (w : World) : Calls Tryz.prog 13 #[.int .i64 (t : Int), .int .u32 (key : Int)] w fun e w' => ∃ v, e = .returned v ∧ NewE w w' false t key v := by
  have hit := fun W => isT_any (t : Int) W
  rw [decide_eq_true (show 0 ≤ (t : Int) ∧ (t : Int) < 64 by omega)] at hit
  have HIT := Lib.hid hit
  have e1 : IntKind.u64.wrap (key : Int) = (key : Int) := by rw [IntKind.wrap_u64]; omega
  clear hit ht hk
  go_enter Tryz.func13, Tryz.ntmps13
  go_upto_region 4 with (go_at_call 47; refine (HIT.out _).mono ?_; rintro e w1 ⟨rfl, rfl⟩)
  go_wp2_with fail
  go_ret
  refine ⟨_, rfl, ⟨w.heap.size + 1 + 1 + 1, w.heap.size + 1 + 1, w.heap.size, w.heap.size + 1, 0, false, 0, 0, .nilIface⟩, rfl, ⟨?_, ⟨216, ?_⟩, ?_, ?_, ?_⟩, ?_, rfl, rfl, ⟨?_, ?_, ?_, ?_⟩⟩
  · exact alloc_at (by simp only [alloc_size])
  · rw [alloc_lt (by simp only [alloc_size]; omega)]
    exact alloc_at (by simp only [alloc_size])
  · rw [alloc_lt (by simp only [alloc_size]; omega), alloc_lt (by simp only [alloc_size]; omega), alloc_lt (by simp only [alloc_size]; omega)]
    exact heap_alloc_new _ _
  · rw [alloc_lt (by simp only [alloc_size]; omega), alloc_lt (by simp only [alloc_size]; omega)]
    exact alloc_at (by simp only [alloc_size])
  · show w.heap.size ≠ w.heap.size + 1; omega
  · exact (((below1 w _).alloc (by simp only [alloc_size]; omega) _).alloc (by simp only [alloc_size]; omega) _).alloc (by simp only [alloc_size]; omega) _
  · show w.heap.size ≤ w.heap.size + 1 + 1 + 1; omega
  · show w.heap.size ≤ w.heap.size + 1 + 1; omega
  · exact Nat.le_refl _
  · show w.heap.size ≤ w.heap.size + 1; omega
def noP : Part where
  ok _ := True
  fp _ := False
  lt _ _ _ e := e.elim
  kept _ _ _ _ _ _ := trivial
section
variable {w0 w w' : World} {base WB : Nat} {M : Sd} {r : List Part} {j u U : Nat} {o : Bool} {t kw tw : Nat} {Z : Wb} {X : Wm} {E : En}
theorem Pg.push1 (h : Pg w0 w base WB M r X) (q : Part) (b : Below w.heap.size w w') (hq : q.ok w') (hf : ∀ k, q.fp k → w.heap.size ≤ k) : Pg w0 w' base WB M (r ++ [q]) X := by
  have hp := h.ps.push q b hq hf
  rw [List.append_assoc] at hp
  exact ⟨hp, h.wB, h.xm, h.bl.trans (b.mono h.ps.size)⟩
theorem Pg.enter (h : Pg w0 w base WB M r X) {v : Value} (hn : NewE w w' o t kw v) : ∃ Z : Wb, v = Pw Z.B ∧ Z.i = 0 ∧ Z.st = false ∧ Wy w0 w' base WB M (r ++ [noP, noP]) r.length o t kw 0 Z X := by
  obtain ⟨Z, rfl, ha, hb, hi, hs, h1, h2, h3, h4⟩ := hn
  refine ⟨Z, rfl, hi, hs, ?_, by rw [List.length_append]; show r.length < r.length + 2; omega⟩
  have g1 := Pg.push1 h (wayP o t kw 0 Z) hb ha (fun k hk => by
    rcases hk with rfl | rfl | rfl | rfl
    · exact h1
    · exact h2
    · exact h3
    · exact h4)
  have g2 := Pg.push1 g1 noP (Below.refl _ _) trivial (fun k e => e.elim)
  rw [List.append_assoc] at g2
  rw [List.set_append_right _ _ (Nat.le_refl _), Nat.sub_self]
  exact g2
theorem Wy.begins (h : Wy w0 w base WB M (r ++ [noP, noP]) r.length o t kw tw Z X) (hi : Z.i = 0) (hs : Z.st = false) {E : En} (e1 : E.ow = o) (e2 : E.t = t) (e3 : E.kw = kw) (e4 : E.tw = tw) (el : E.ln = if o then 1 else 2) : Ew w0 w base WB M (r ++ [noP, noP]) r.length (r.length + 1) E Z X := by
  obtain ⟨o', ln, t', kw', tw', K, F⟩ := E
  have e1' : o' = o := e1
  have e2' : t' = t := e2
  have e3' : kw' = kw := e3
  have e4' : tw' = tw := e4
  have el' : ln = if o then 1 else 2 := el
  subst e1' e2' e3' e4' el'
  cases o'
  · exact ⟨h, by omega, by rw [List.length_append]; show r.length + 1 < r.length + 2; omega, hi, hs, fun e => absurd e (by show ¬ 2 = 3; omega), fun e => absurd e (by show ¬ 2 = 6; omega), fun e => absurd e (by show ¬ (3 ≤ 2 ∨ 2 = 0); omega)⟩
  · exact ⟨h, by omega, by rw [List.length_append]; show r.length + 1 < r.length + 2; omega, hi, hs, fun e => absurd e (by show ¬ 1 = 3; omega), fun e => absurd e (by show ¬ 1 = 6; omega), fun e => absurd e (by show ¬ (3 ≤ 1 ∨ 1 = 0); omega)⟩
end
end Go.Proofs.YtokplfkhpjcfcaaGreat.S15
set_option linter.unusedVariables false
set_option linter.unusedSimpArgs false
namespace Go.Proofs.YtokplfkhpjcfcaaGreat.S15
open Go.Proofs.YtokplfkhpjcfcaaGreat Go.Proofs.YtokplfkhpjcfcaaGreat.S11 Go.Proofs.YtokplfkhpjcfcaaGreat.S12 Go.Proofs.YtokplfkhpjcfcaaGreat.S13 Go.Proofs.YtokplfkhpjcfcaaGreat.S14
open Go.RowKit
theorem bring_low {a : Nat} (h : a < 1024) (v : Nat) : S2.bring a v = v := by
  have e1 : S2.oneB 1024 a = false := by unfold S2.oneB; rw [decide_eq_false (by omega)]; rfl
  have e2 : S2.oneB 1120 a = false := by unfold S2.oneB; rw [decide_eq_false (by omega)]; rfl
  unfold S2.bring S2.byteB
  rw [e1, e2]; rfl
theorem acc_same {M : Sd} {k a y : Nat} (h : a < 1024) : S2.look (M.acc k a y).L a = y := by
  show S2.look (S2.putL M.L a (S2.bring a y)) a = y
  rw [S2.look_put_same, bring_low h]
theorem acc_other {M : Sd} {k a y b : Nat} (h : b ≠ a) : S2.look (M.acc k a y).L b = S2.look M.L b := S2.look_put_other _ h _
theorem acc_load {M : Sd} {k a : Nat} (h : a < 1024) (b : Nat) : S2.look (M.acc k a (S2.look M.L a)).L b = S2.look M.L b := by
  by_cases e : b = a
  · subst e; exact acc_same h
  · exact acc_other e
structure Took (M M' : Sd) (a : Nat) : Prop where
  at_a : S2.look M'.L a = 1
  other : ∀ b, b ≠ a → S2.look M'.L b = S2.look M.L b
  n : M'.n ≤ M.n + 9
  pn : M'.pn ≤ M.pn + 9
  sp : M'.sp = M.sp
theorem lock1 {M : Sd} {t a : Nat} (ha : a < 1024) (h0 : S2.look M.L a = 0) : stepM M (lk1 t a) = M.acc 3 a 1 ∧ (stepK M (lk1 t a)).ln = 0 := by
  constructor
  · show M.acc 3 a (S2.casV (S2.look M.L a) 0 1) = _
    rw [h0]; rfl
  · show (Lk.cas _ (S2.look M.L a) 0 _).ln = 0
    unfold Lk.cas
    rw [if_pos h0]
section
variable {M : Sd} {t key x a : Nat}
theorem en3 (hx : S2.look M.L 0 = x) (ha : a = lokN (key % 4294967296) x) (h0 : S2.look M.L a = 0) :
    (∀ i, i < 3 → (eitn (M, en0 t key) i).2.ln ≠ 0) ∧ (eitn (M, en0 t key) 3).2.ln = 0 ∧ (eitn (M, en0 t key) 3).2.kw = key ∧ (eitn (M, en0 t key) 3).2.tw = x ∧ (eitn (M, en0 t key) 3).2.ow = false ∧ Took M (eitn (M, en0 t key) 3).1 a := by
  have ha2 := lok_in (key % 4294967296) x
  rw [← ha] at ha2
  have e1 : eit (M, en0 t key) = (M.acc 1 0 x, ⟨false, 3, t, key, x, lk1 t a, fr0 0⟩) := by
    show (M.acc 1 0 (S2.look M.L 0), (⟨false, 3, t, key, S2.look M.L 0, lk1 t (lokN (key % 4294967296) (S2.look M.L 0)), fr0 0⟩ : En)) = _
    rw [hx, ← ha]
  obtain ⟨M1, hM1⟩ : ∃ M1, M1 = M.acc 1 0 x := ⟨_, rfl⟩
  have l1 : ∀ b, S2.look M1.L b = S2.look M.L b := by rw [hM1, ← hx]; exact acc_load (by omega)
  obtain ⟨s1, s2⟩ := lock1 (M := M1) (t := t) (a := a) (by omega) (by rw [l1]; exact h0)
  rw [← hM1] at e1
  have e2 : eit (M1, ⟨false, 3, t, key, x, lk1 t a, fr0 0⟩) = (M1.acc 3 a 1, ⟨false, 4, t, key, x, stepK M1 (lk1 t a), fr0 0⟩) := by
    show (stepM M1 (lk1 t a), (⟨false, if (stepK M1 (lk1 t a)).ln = 0 then 4 else 3, t, key, x, stepK M1 (lk1 t a), fr0 0⟩ : En)) = _
    rw [s1, if_pos s2]
  obtain ⟨M2, hM2⟩ : ∃ M2, M2 = M1.acc 3 a 1 := ⟨_, rfl⟩
  rw [← hM2] at e2
  have l2a : S2.look M2.L a = 1 := by rw [hM2]; exact acc_same (by omega)
  have l2 : ∀ b, b ≠ a → S2.look M2.L b = S2.look M.L b := fun b hb => by rw [hM2, acc_other hb]; exact l1 b
  have e3 : eit (M2, ⟨false, 4, t, key, x, stepK M1 (lk1 t a), fr0 0⟩) = (M2.acc 1 0 (S2.look M2.L 0), ⟨false, 0, t, key, x, stepK M1 (lk1 t a), fr0 0⟩) := by
    show (M2.acc 1 0 (S2.look M2.L 0), (if S2.look M2.L 0 = x then (⟨false, 0, t, key, x, stepK M1 (lk1 t a), fr0 0⟩ : En) else _)) = _
    rw [if_pos (by rw [l2 0 (by omega)]; exact hx)]
  have f1 : eitn (M, en0 t key) 1 = (M1, ⟨false, 3, t, key, x, lk1 t a, fr0 0⟩) := e1
  have f2 : eitn (M, en0 t key) 2 = (M2, ⟨false, 4, t, key, x, stepK M1 (lk1 t a), fr0 0⟩) := by show eit (eitn (M, en0 t key) 1) = _; rw [f1, e2]
  have f3 : eitn (M, en0 t key) 3 = (M2.acc 1 0 (S2.look M2.L 0), ⟨false, 0, t, key, x, stepK M1 (lk1 t a), fr0 0⟩) := by show eit (eitn (M, en0 t key) 2) = _; rw [f2, e3]
  have hb := eitn_n (M, en0 t key) 3
  refine ⟨fun i hi => ?_, by rw [f3], by rw [f3], by rw [f3], by rw [f3], ?_⟩
  · rcases (show i = 0 ∨ i = 1 ∨ i = 2 by omega) with rfl | rfl | rfl
    · show 2 ≠ 0; omega
    · rw [f1]; show 3 ≠ 0; omega
    · rw [f2]; show 4 ≠ 0; omega
  · refine ⟨?_, fun b hb => ?_, by have h1 : (M, en0 t key).1.n = M.n := rfl; omega, by have h1 : (M, en0 t key).1.pn = M.pn := rfl; omega, hb.2.2.1⟩
    · rw [f3]; show S2.look (M2.acc 1 0 (S2.look M2.L 0)).L a = 1; rw [acc_load (by omega)]; exact l2a
    · rw [f3]; show S2.look (M2.acc 1 0 (S2.look M2.L 0)).L b = _; rw [acc_load (by omega)]; exact l2 b hb
end
theorem ok_en {t key : Nat} (ht : t < 64) (hk : key < 18446744073709551616) : EnOk (en0 t key) :=
  ⟨by show 2 ≤ 6; omega, fun _ => ⟨by show 2 ≠ 1; omega, by show 2 ≠ 5; omega⟩, ht, hk, by show 0 < _; omega, by show 0 ≤ 6; omega, by show 0 < 64; omega, by show 0 < _; omega, by show 0 < _; omega, ⟨by show (0 : Int) ≤ 0; omega, by show (0 : Int) ≤ 16; omega⟩, fok_new (by omega)⟩
section
variable {w0 w w' : World} {base WB : Nat} {M : Sd} {r : List Part} {t key x a : Nat} {Z : Wb} {X : Wm}
def Alone (w0 w' : World) (base WB : Nat) (M : Sd) (r : List Part) (o : Bool) (t key x a : Nat) (B : Nat) : Prop :=
  ∃ (M' : Sd) (E : En) (q : Part) (Z' : Wb) (X' : Wm), Z'.B = B ∧ Took M M' a ∧ E.ln = 0 ∧ E.kw = key ∧ E.tw = x ∧ E.ow = o ∧ Ew w0 w' base WB M' ((r ++ [noP, noP]).set (r.length + 1) q) r.length (r.length + 1) E Z' X'
theorem enter_alone (h : Wy w0 w base WB M (r ++ [noP, noP]) r.length false t key 0 Z X) (hi : Z.i = 0) (hs : Z.st = false) (ht : t < 64) (hk : key < 4294967296) (ms : 0 ≤ M.sp ∧ M.sp ≤ 16) (hn : M.n ≤ 900000000) (hp : M.pn ≤ 900000000)
    (hx : S2.look M.L 0 = x) (ha : a = lokN key x) (h0 : S2.look M.L a = 0) :
    Calls Tryz.prog 63 #[Pw WB, .iface 59 (Pw Z.B), .int .i64 9] w fun e w' => e = .returned (.int .i64 3) ∧ Alone w0 w' base WB M r false t key x a Z.B := by
  have hew := h.begins hi hs (E := en0 t key) rfl rfl rfl rfl rfl
  have ek : key % 4294967296 = key := Nat.mod_eq_of_lt hk
  obtain ⟨g1, g2, g3, g4, g5, g6⟩ := en3 (t := t) hx (by rw [ek]; exact ha) h0
  refine (run_e hew (ok_en ht (by omega)) ms 3 9 (by omega) (by omega) (by omega) hn hp g1 g2).mono ?_
  rintro e w' ⟨rfl, q, Z', X', e1, h'⟩
  exact ⟨rfl, _, _, q, Z', X', e1, g6, g2, g3, g4, g5, h'⟩
theorem at_zero {E : En} (h : E.ln = 0) : E.at = nPart E.ow := by
  unfold En.at nPart
  rw [h]
  cases E.ow <;> rfl
theorem Ew.alone {E : En} {j u : Nat} (h : Ew w0 w base WB M r j u E Z X) : Pg w0 w base WB M (r.set j (wayP E.ow E.t E.kw E.tw Z)) X := h.wy.pg
end
end Go.Proofs.YtokplfkhpjcfcaaGreat.S15
set_option linter.unusedVariables false
set_option linter.unusedSimpArgs false
namespace Go.Proofs.YtokplfkhpjcfcaaGreat.S15
set_option maxRecDepth 100000
set_option maxHeartbeats 16000000
open Go.Proofs.YtokplfkhpjcfcaaGreat Go.Proofs.YtokplfkhpjcfcaaGreat.S11 Go.Proofs.YtokplfkhpjcfcaaGreat.S12 Go.Proofs.YtokplfkhpjcfcaaGreat.S13 Go.Proofs.YtokplfkhpjcfcaaGreat.S14
open Go.RowKit
theorem look02 (b : Nat) : S2.look L02 b = if b = 0 then 2 else 0 := by
  have e : L02 = [(0, 2)] := by decide
  rw [e]
  by_cases h : b = 0
  · subst h; rfl
  · rw [if_neg h]
    unfold S2.look
    have : ((0 : Nat) == b) = false := by simp; omega
    simp [List.find?, this]
section
variable {w0 w w' : World} {base WB : Nat} {M : Sd} {r : List Part} {X : Wm}
theorem pg_last {Q : Nat} {ob : Obj} (h : Pg w0 w base WB M (r ++ [blockP Q ob]) X) : w.heap[Q]? = some ob :=
  h.ps.ok _ (blockP Q ob) (h.part (j := r.length) (by rw [List.getElem?_append_right (Nat.le_refl _), Nat.sub_self]; rfl))
theorem pg_peek (h : Pg w0 w base WB M r X) {a : Nat} (ha : a < 4294967296) : Calls Tryz.prog 64 #[Pw X.cB, .int .u32 a] w fun e w' => e = .returned (.int .u64 (S2.look M.L a : Nat)) ∧ w = w' := by
  have := S2.peek_any w X.cB X.cM X.L X.n X.k X.a X.was X.is a h.pw.cells ha
  rwa [show X.L = M.L from congrArg Sd.L h.xm] at this
end
theorem lives15 (w : World) : Calls Tryz.prog 22 #[] w fun e w' => e = .returned (.bool true) ∧ Below w.heap.size w w' := by
  have HW : Hid (Calls Tryz.prog 62 #[.int .u8 0] w fun e w' => ∃ X, e = .returned (Pw X.wB) ∧ PW w' w.heap.size X ∧ At0 X 0 5 [] ∧ Below w.heap.size w w') := Lib.hid (world_any 0 (by omega) w)
  have HNE : Hid (∀ W, Calls Tryz.prog 13 #[.int .i64 3, .int .u32 1152] W fun e w' => ∃ v, e = .returned v ∧ NewE W w' false 3 1152 v) := Lib.hid (fun W => new_enter 3 1152 (by omega) (by omega) W)
  obtain ⟨bkt, hbk⟩ : ∃ bkt, bkt = bktN 1152 2 := ⟨_, rfl⟩
  obtain ⟨a, hal⟩ : ∃ a, a = lokN 1152 2 := ⟨_, rfl⟩
  have hain := lok_in 1152 2
  rw [← hal] at hain
  have HHS : Hid (∀ W, Calls Tryz.prog 31 #[.int .u32 1152, .int .i64 2] W fun e w' => e = .returned (.int .i64 (bkt : Int)) ∧ W = w') := Lib.hid (fun W => by
    have h := S10.hash_any 1152 ((bitsN 2 : Nat) : Int) (by omega) W
    rw [bkt_hash, ← hbk] at h
    exact h)
  have HLK : Hid (∀ W, Calls Tryz.prog 10 #[.agg #[.int .i64 2, .int .i64 (bkt : Int)]] W fun e w' => e = .returned (.int .u32 (a : Int)) ∧ Below W.heap.size W w') := Lib.hid (fun W => by
    have h := lockOf_any ((bitsN 2 : Nat) : Int) ((bktN 1152 2 : Nat) : Int) W
    rw [lok_lock, ← hbk, ← hal] at h
    exact h)
  have HBK := Lib.hid hbk; have HAL := Lib.hid hal; have HAI := Lib.hid hain
  clear hbk hal hain
  go_enter Tryz.func22, Tryz.ntmps22
  go_upto_region 4 with (go_at_call 62; refine HW.out.mono ?_; rintro e w1 ⟨X, rfl, hp, h0, hb⟩)
  have hpg := pg_of hp hb
  rw [at0_sd h0] at hpg
  obtain ⟨WB, hWB⟩ : ∃ x, x = X.wB := ⟨_, rfl⟩
  rw [← hWB] at hpg ⊢
  have HPG := Lib.hid hpg
  clear hpg hp h0 hb hWB HW
  go_upto_region 5 with (go_at_call 13; refine (HNE.out _).mono ?_; rintro e w2 ⟨v, rfl, hne⟩)
  obtain ⟨Z, rfl, hi, hs, hwy⟩ := Pg.enter HPG.out hne
  have HR := Lib.hid (enter_alone (x := 2) (a := a) hwy hi hs (by omega) (by omega) ⟨by show (0 : Int) ≤ 0; omega, by show (0 : Int) ≤ 16; omega⟩ (by show 0 ≤ _; omega) (by show 0 ≤ _; omega) (look02 0) HAL.out (by
    show S2.look L02 a = 0
    rw [look02, if_neg (by have := HAI.out; omega)]))
  clear hne hi hs hwy HPG HNE
  go_upto_region 6 with (go_at_call 63; refine HR.out.mono ?_; rintro e w3 ⟨rfl, M', E, q, Z', X', hzb, htk, e0, ek, et, eo, hew⟩)
  have hat : (nPart E.ow : Int) ≤ Z'.i := by rw [hew.i, at_zero e0]; exact Int.le_refl _
  have hpl := hew.pl (.inr e0)
  have hg := egot_yes hew.wy hat
  rw [hzb, hpl.1, hpl.2, ek, et, show ((bitsN 2 : Nat) : Int) = 2 from rfl, show 1152 % 4294967296 = 1152 from rfl, ← HBK.out] at hg
  have HG := Lib.hid hg; have HEW := Lib.hid hew; have HTK := Lib.hid htk
  clear hat hpl hg hew htk HR e0 ek et eo
  go_upto_region 7 with (go_at_call 18; refine HG.out.mono ?_; rintro e w4 ⟨rfl, hb4⟩; have HB4 := Lib.hid hb4; clear hb4)
  obtain ⟨r5, h5⟩ : ∃ r5, Pg w (w4.alloc (.cells #[.int .i64 2, .int .i64 (bkt : Int)] 27)) w.heap.size WB M' (r5 ++ [blockP w4.heap.size (.cells #[.int .i64 2, .int .i64 (bkt : Int)] 27)]) X' := ⟨_, Pg.add (HEW.out.new HB4.out).alone _⟩
  obtain ⟨N4, hN4⟩ : ∃ N4, N4 = w4.heap.size := ⟨_, rfl⟩
  rw [← hN4] at h5 ⊢
  obtain ⟨cb, hcb⟩ : ∃ cb, X'.cB = cb := ⟨_, rfl⟩
  have H5 := Lib.hid h5; have HCB := Lib.hid hcb
  have hpk : ∀ W, Pg w W w.heap.size WB M' (r5 ++ [blockP N4 (.cells #[.int .i64 2, .int .i64 (bkt : Int)] 27)]) X' → Calls Tryz.prog 64 #[Pw cb, .int .u32 (a : Int)] W fun e w' => e = .returned (.int .u64 1) ∧ W = w' := fun W hW => by
    have := pg_peek hW (a := a) (by have := HAI.out; omega)
    rw [hcb, HTK.out.at_a] at this
    exact this
  have HPK := Lib.hid hpk
  clear h5 hcb hN4 HG HEW HB4 hpk
  generalize w4.alloc (.cells #[.int .i64 2, .int .i64 (bkt : Int)] 27) = w5 at *
  refine wp_region_held_drew (S := fun w' => w'.cell? ⟨N4, 0, none⟩ = some (.int .i64 2) ∧ w'.cell? ⟨N4, 1, none⟩ = some (.int .i64 (bkt : Int)) ∧ w'.cell? ⟨WB, 0, none⟩ = some (Pw cb)) (by kernel_rfl) ?_ (fun hHeld => ?_)
  · exact ⟨cell_row (pg_last (H5.out.new (Below.refl _ _).drew)) 0, cell_row (pg_last (H5.out.new (Below.refl _ _).drew)) 1, by rw [← HCB.out]; exact (H5.out.new (Below.refl _ _).drew).c.1⟩
  refine tA 0 ⟨some 15, .move (.tmp 3), 3, "outright.go:23", #[], none⟩ ?vlm1 ?rlm1
  (try simp only [Act.put, tC, tD, tE])
  refine tA 1 ⟨some 16, .binOp .eql 3 (.tmp 15) (.const (.int .i64 3)) 3, 4, "outright.go:23", #[⟨0, .data⟩], none⟩ ?vlm2 ?rlm2
  (try simp only [Act.put, tC, tD, tE])
  refine tA 2 ⟨some 17, .move (.tmp 16), 4, "outright.go:23", #[⟨1, .data⟩], none⟩ ?vlm3 ?rlm3
  (try simp only [Act.put, tC, tD, tE])
  refine tA 3 ⟨some 18, .fieldAddr 27 (.tmp 4) 0, 0, "outright.go:23", #[⟨2, .guard⟩], some (2, true)⟩ ?vlm4 ?rlm4
  (try simp only [Act.put, tC, tD, tE])
  refine tA 4 ⟨some 19, .load 3 (.tmp 18), 3, "outright.go:23", #[⟨3, .data⟩, ⟨2, .guard⟩], some (2, true)⟩ ?vlm5 ?rlm5
  (try simp only [Act.put, tC, tD, tE])
  refine tA 5 ⟨some 20, .binOp .eql 3 (.tmp 19) (.const (.int .i64 2)) 3, 4, "outright.go:23", #[⟨4, .data⟩, ⟨2, .guard⟩], some (2, true)⟩ ?vlm6 ?rlm6
  (try simp only [Act.put, tC, tD, tE])
  refine tA 6 ⟨some 21, .pick (.tmp 17) (.tmp 20) (.const (.bool false)), 4, "outright.go:23", #[⟨2, .data⟩, ⟨5, .data⟩], none⟩ ?vlm7 ?rlm7
  (try simp only [Act.put, tC, tD, tE])
  refine tA 7 ⟨some 22, .move (.tmp 21), 4, "outright.go:23", #[⟨6, .data⟩, ⟨2, .chain⟩], none⟩ ?vlm8 ?rlm8
  (try simp only [Act.put, tC, tD, tE])
  refine tA 8 ⟨some 23, .fieldAddr 27 (.tmp 4) 1, 0, "outright.go:23", #[⟨7, .guard⟩], some (7, true)⟩ ?vlm9 ?rlm9
  (try simp only [Act.put, tC, tD, tE])
  refine tA 9 ⟨some 24, .load 3 (.tmp 23), 3, "outright.go:23", #[⟨8, .data⟩, ⟨7, .guard⟩], some (7, true)⟩ ?vlm10 ?rlm10
  (try simp only [Act.put, tC, tD, tE])
  refine wpAnyH_ready (rs := [10]) (by kernel_rfl) (by simp) ?_
  refine AllReadyH.cons (o := ⟨some 25, .call ⟨.value (.func 31), #[.const (.int .u32 1152), .const (.int .i64 2)], #[24, 3]⟩, 3, "outright.go:23", #[⟨7, .chain⟩, ⟨7, .guard⟩], some (7, true)⟩) rfl (fun Kq hKq => ?_) AllReadyH.nil
  go_simp
  (refine (HHS.out _).mono ?_; rintro e w6 ⟨rfl, rfl⟩)
  refine hKq.out _ _ ?_ (fun hHeld => ?_)
  · exact hHeld
  clear hKq Kq
  (try simp only [Act.put, tC, tD, tE])
  refine tA 11 ⟨some 26, .binOp .eql 3 (.tmp 24) (.tmp 25) 3, 4, "outright.go:23", #[⟨9, .data⟩, ⟨10, .data⟩, ⟨7, .guard⟩], some (7, true)⟩ ?vlm11 ?rlm11
  (try simp only [Act.put, tC, tD, tE])
  refine tA 12 ⟨some 27, .pick (.tmp 22) (.tmp 26) (.const (.bool false)), 4, "outright.go:23", #[⟨7, .data⟩, ⟨11, .data⟩], none⟩ ?vlm12 ?rlm12
  (try simp only [Act.put, tC, tD, tE])
  refine tA 13 ⟨some 28, .move (.tmp 27), 4, "outright.go:23", #[⟨12, .data⟩, ⟨10, .chain⟩], none⟩ ?vlm13 ?rlm13
  (try simp only [Act.put, tC, tD, tE])
  refine tA 14 ⟨some 29, .move (.tmp 1), 35, "outright.go:23", #[⟨13, .guard⟩], some (13, true)⟩ ?vlm14 ?rlm14
  (try simp only [Act.put, tC, tD, tE])
  refine tA 15 ⟨some 30, .nilCheck (.tmp 29), 0, "outright.go:23", #[⟨14, .data⟩, ⟨13, .guard⟩], some (13, true)⟩ ?vlm15 ?rlm15
  (try simp only [Act.put, tC, tD, tE])
  refine tA 16 ⟨some 31, .fieldAddr 104 (.tmp 30) 0, 0, "outright.go:23", #[⟨15, .data⟩, ⟨13, .guard⟩], some (13, true)⟩ ?vlm16 ?rlm16
  (try simp only [Act.put, tC, tD, tE])
  refine tA 17 ⟨some 32, .load 96 (.tmp 31), 96, "outright.go:23", #[⟨16, .data⟩, ⟨13, .guard⟩], some (13, true)⟩ ?vlm17 ?rlm17
  (try simp only [Act.put, tC, tD, tE])
  refine tA 18 ⟨some 33, .load 27 (.tmp 4), 27, "outright.go:23", #[⟨13, .guard⟩], some (13, true)⟩ ?vlm18 ?rlm18
  (try simp only [Act.put, tC, tD, tE])
  refine wpAnyH_ready (rs := [19]) (by kernel_rfl) (by simp) ?_
  refine AllReadyH.cons (o := ⟨some 34, .call ⟨.value (.func 10), #[.tmp 33], #[27]⟩, 24, "outright.go:23", #[⟨18, .data⟩, ⟨13, .chain⟩, ⟨13, .guard⟩], some (13, true)⟩) rfl (fun Kq hKq => ?_) AllReadyH.nil
  go_simp
  (refine (HLK.out _).mono ?_; rintro e w7 ⟨rfl, hb7⟩; have H7 := Lib.hid (H5.out.new ((Below.refl _ _).drew.trans hb7)); clear hb7)
  refine hKq.out _ _ ?_ (fun hHeld => ?_)
  · exact ⟨cell_row (pg_last H7.out) 0, cell_row (pg_last H7.out) 1, by rw [← HCB.out]; exact H7.out.c.1⟩
  clear hKq Kq
  (try simp only [Act.put, tC, tD, tE])
  refine wpAnyH_ready (rs := [20]) (by kernel_rfl) (by simp) ?_
  refine AllReadyH.cons (o := ⟨some 35, .call ⟨.value (.func 64), #[.tmp 32, .tmp 34], #[96, 24]⟩, 22, "outright.go:23", #[⟨17, .data⟩, ⟨19, .data⟩, ⟨19, .chain⟩, ⟨13, .guard⟩], some (13, true)⟩) rfl (fun Kq hKq => ?_) AllReadyH.nil
  go_simp
  (refine (HPK.out w7 H7.out).mono ?_; rintro e w8 ⟨rfl, rfl⟩)
  refine hKq.out _ _ ?_ (fun hHeld => ?_)
  · exact hHeld
  clear hKq Kq
  (try simp only [Act.put, tC, tD, tE])
  refine tA 21 ⟨some 36, .binOp .eql 22 (.tmp 35) (.const (.int .u64 1)) 22, 4, "outright.go:23", #[⟨20, .data⟩, ⟨13, .guard⟩], some (13, true)⟩ ?vlm19 ?rlm19
  (try simp only [Act.put, tC, tD, tE])
  refine tA 22 ⟨some 37, .pick (.tmp 28) (.tmp 36) (.const (.bool false)), 4, "outright.go:23", #[⟨13, .data⟩, ⟨21, .data⟩], none⟩ ?vlm20 ?rlm20
  (try simp only [Act.put, tC, tD, tE])
  refine tA 23 ⟨some 0, .assign (.tmp 37), 4, "outright.go:23", #[⟨22, .data⟩, ⟨20, .chain⟩, ⟨0, .phase⟩, ⟨1, .phase⟩, ⟨2, .phase⟩, ⟨3, .phase⟩, ⟨4, .phase⟩, ⟨5, .phase⟩, ⟨6, .phase⟩, ⟨7, .phase⟩, ⟨8, .phase⟩, ⟨9, .phase⟩, ⟨10, .phase⟩, ⟨11, .phase⟩, ⟨12, .phase⟩, ⟨13, .phase⟩, ⟨14, .phase⟩, ⟨15, .phase⟩, ⟨16, .phase⟩, ⟨17, .phase⟩, ⟨18, .phase⟩, ⟨19, .phase⟩, ⟨20, .phase⟩, ⟨21, .phase⟩, ⟨22, .phase⟩], none⟩ ?vlm21 ?rlm21
  (try simp only [Act.put, tC, tD, tE])
  refine wpAnyH_done (by kernel_rfl) ?_ _
  go_wp2_with fail
  go_ret
  exact ⟨rfl, H7.out.bl⟩
end Go.Proofs.YtokplfkhpjcfcaaGreat.S15
