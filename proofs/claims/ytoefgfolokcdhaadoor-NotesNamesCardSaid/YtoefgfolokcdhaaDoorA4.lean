/- The document's table of kinds. -/
import Derived.Test.YtoefgfolokcdhaaDoorA3
import Derived.Great.Walk
import Derived.Deep.MidRow
import Derived.Laws.CopyOwn
namespace Go.Proofs.YtoefgfolokcdhaaDoor
open Go.RowKit

theorem wpList_buildC {P : Program} {ops : Array Oper} {rest : List Oper} {o : Oper} {a : Act} {w : World} {Q : Exit → Act → World → Prop} (hg : o.guard = none) (t : TypeId) (parts : Array (Nat × Operand)) (ho : o.op = .build t parts)
    (cells : Array Value) (hf : P.built t (parts.map fun (i, x) => (i, a.eval x)).toList = some cells)
    (h : wpList P ops Q rest (a.put o.dst (.agg cells)) w) : wpList P ops Q (o :: rest) a w :=
  wpList_build hg t parts ho (by rw [hf]; rfl) (by rw [hf]; exact h)
theorem results_cell {P : Program} {fn : Func} {tmps : Array Value} {a : Tmp} {t : TypeId} {ad : Addr} {v : Value} {w w' : World} (hr : fn.results = #[ResultVar.cell a t]) (ha : tmps.getD a undef = .pointer (some ad)) (hl : (loadVar t ad).run P w = .ok v w') :
    (results fn tmps).run P w = .ok v w' := by
  unfold results
  rw [hr]
  have ha' : tmps[a]?.getD undef = .pointer (some ad) := by simpa using ha
  simp [ha', asAddr, hl]
def locksV : Array Value := (locksL.map Value.string).toArray
def zero60 : Array Value := (locksL.map fun _ => Value.string ⟨#[]⟩).toArray
set_option maxHeartbeats 2000000 in
set_option maxRecDepth 100000 in
theorem kinds_any (w : World) : Calls Tryd.prog 23 #[] w fun e w' => e = .returned (.agg nmV) ∧ Below w.heap.size w w' := by

  go_enter Tryd.func23, Tryd.ntmps23
  go_wp2_with fail
  go_loopg [3] 5 (fun q s3 wx => ∃ k : Nat, k ≤ 5 ∧ q = 5 - k ∧ s3 = .int .i64 (k : Int) ∧ wx.heap.size = w.heap.size + 3 ∧ wx.heap[w.heap.size]? = some (.cells (zero57) 57 (0, 0)) ∧ wx.heap[w.heap.size + 1]? = some (.cells (fillA k) 57 (0, 0)) ∧ wx.heap[w.heap.size + 2]? = some (.cells (lotL.map Value.string).toArray 59 (0, 0)) ∧ Below w.heap.size w wx)
  case atStart =>
    refine ⟨0, by omega, rfl, rfl, by simp, ?_, ?_, ?_, ((((Below.refl _ _).alloc (Nat.le_refl _) _).alloc (by simp) _).alloc (by simp; omega) _)⟩
    · exact (Below.heap_alloc _ _ _ (by simp; omega)).trans ((Below.heap_alloc _ _ _ (by simp)).trans (heap_alloc_new w _))
    · exact (Below.heap_alloc _ _ _ (by simp)).trans (by rw [show w.heap.size + 1 = (w.alloc (.cells (zero57) 57)).heap.size by simp]; exact heap_alloc_new _ _)
    · rw [show w.heap.size + 2 = ((w.alloc (.cells (zero57) 57)).alloc (.cells (zero57) 57)).heap.size by simp]; exact heap_alloc_new _ _
  case round =>
    obtain ⟨k, hk, rfl, rfl, hsz, h0, h1, h2, hb⟩ := hrel
    have HB := Lib.hid hb; have H0 := Lib.hid h0; have H1 := Lib.hid h1; have H2 := Lib.hid h2
    clear hb h0 h1 h2
    by_cases hlt : k < 5
    · have c2 : wr.cell? ⟨w.heap.size + 2, k, none⟩ = some (.string (lotL.getD k ⟨#[]⟩)) := by
        rw [cell_row H2.out k]
        have : k < (lotL.map Value.string).length := hlt
        simp only [List.getElem?_toArray, List.getElem?_map, List.getD_eq_getElem?_getD]
        rw [List.getElem?_eq_getElem (by simpa using this)]; rfl
      obtain ⟨old, c1⟩ : ∃ old, wr.cell? ⟨w.heap.size + 1, 1 + k, none⟩ = some old := ⟨_, by rw [cell_row H1.out, Array.getElem?_eq_getElem (by rw [fillA_size]; omega)]⟩
      have f1 : wr.frozen? ⟨w.heap.size + 1, 1 + k, none⟩ = false := froz_row H1.out _
      have hwr : IntKind.i64.wrap (1 + (k : Int)) = ((1 + k : Nat) : Int) := by rw [IntKind.wrap_i64]; omega
      have hl5 : (k : Int) < 5 := by omega
      have e1 : fillA (k + 1) = (fillA k).setIfInBounds (1 + k) (.string (lotL.getD k ⟨#[]⟩)) := rfl
      have E1 := Lib.hid e1
      clear e1
      generalize lotL.getD k ⟨#[]⟩ = x at *
      go_wp2
      go_roundg (5 - (k + 1))
      case measure => omega
      case rel => exact ⟨k + 1, by omega, rfl, by go_num, by simpa [World.setCell] using hsz, (Below.heap_setCell _ _ _ _ (by show w.heap.size ≠ w.heap.size + 1; omega)).trans H0.out, by rw [E1.out]; exact row_set H1.out (1 + k) _, (Below.heap_setCell _ _ _ _ (by show w.heap.size + 2 ≠ w.heap.size + 1; omega)).trans H2.out, HB.out.setCell (by show w.heap.size ≤ w.heap.size + 1; omega) _⟩
    · obtain rfl : k = 5 := by omega
      obtain ⟨wo, rfl⟩ : ∃ wo : World, wo = wr := ⟨_, rfl⟩
      clear H2
      go_upto_region 7 with (fail)
      apply wp_region_lit
      refine wpList_buildC rfl 60 _ rfl locksV (by kernel_rfl) ?_
      refine Great.wpList_allocTo rfl (some 4) rfl (.pointer (some ⟨wo.heap.size, 0, none⟩)) (.cells zero60 60) (by rfl) ?_
      refine wpList_store_row rfl 60 _ _ rfl wo.heap.size locksV (by rfl) (by rfl) 60 zero60 (heap_alloc_new _ _) (by kernel_rfl) (by kernel_rfl) (by kernel_rfl) ?_
      apply wpList_nil
      simp only [Act.put, List.setIfInBounds_toArray, List.set_cons_zero, List.set_cons_succ]
      have hb7 : Below w.heap.size w ((wo.alloc (.cells zero60 60)).setRow wo.heap.size locksV) := below_setRow (HB.out.alloc (by omega) _) (by omega) _
      have h70 : ((wo.alloc (.cells zero60 60)).setRow wo.heap.size locksV).heap[w.heap.size]? = some (.cells zero57 57 (0, 0)) := (setRow_other _ _ _ _ (by omega)).trans ((Below.heap_alloc _ _ _ (by omega)).trans H0.out)
      have h71 : ((wo.alloc (.cells zero60 60)).setRow wo.heap.size locksV).heap[w.heap.size + 1]? = some (.cells (fillB 0) 57 (0, 0)) := (setRow_other _ _ _ _ (by omega)).trans ((Below.heap_alloc _ _ _ (by omega)).trans H1.out)
      have h73 : ((wo.alloc (.cells zero60 60)).setRow wo.heap.size locksV).heap[wo.heap.size]? = some (.cells locksV 60 (0, 0)) := setRow_heap _ _ _ _ _ _ (heap_alloc_new _ _)
      have hs7 : ((wo.alloc (.cells zero60 60)).setRow wo.heap.size locksV).heap.size = w.heap.size + 4 := by simp; omega
      generalize (wo.alloc (.cells zero60 60)).setRow wo.heap.size locksV = wq at *
      rw [hsz] at h73
      rw [hsz]
      clear HB H0 H1 hlt hk hsz wo
      generalize hlV : locksV = lV at h73 ⊢
      have HLV := Lib.hid hlV
      clear hlV
      go_wp2_with fail
      go_loopg [5] 22 (fun q s5 wx => ∃ k : Nat, k ≤ 22 ∧ q = 22 - k ∧ s5 = .int .i64 (k : Int) ∧ wx.heap.size = w.heap.size + 4 ∧ wx.heap[w.heap.size]? = some (.cells zero57 57 (0, 0)) ∧ wx.heap[w.heap.size + 1]? = some (.cells (fillB k) 57 (0, 0)) ∧ wx.heap[w.heap.size + 3]? = some (.cells lV 60 (0, 0)) ∧ Below w.heap.size w wx)
      case atStart => exact ⟨0, by omega, rfl, rfl, hs7, h70, h71, h73, hb7⟩
      case round =>
        clear hs7 h70 h71 h73 hb7
        obtain ⟨k, hk, rfl, rfl, hsz, h0, h1, h2, hb⟩ := hrel
        have HB := Lib.hid hb; have H0 := Lib.hid h0; have H1 := Lib.hid h1; have H2 := Lib.hid h2
        clear hb h0 h1 h2
        by_cases hlt : k < 22
        · have c2 : wr.cell? ⟨w.heap.size + 3, k, none⟩ = some (.string (locksL.getD k ⟨#[]⟩)) := by
            have : k < (locksL.map Value.string).length := hlt
            rw [cell_row H2.out k, ← HLV.out]
            simp only [locksV, List.getElem?_toArray, List.getElem?_map, List.getD_eq_getElem?_getD]
            rw [List.getElem?_eq_getElem (by simpa using this)]; rfl
          obtain ⟨old, c1⟩ : ∃ old, wr.cell? ⟨w.heap.size + 1, 16 + k, none⟩ = some old := ⟨_, by rw [cell_row H1.out, Array.getElem?_eq_getElem (by rw [fillB_size]; omega)]⟩
          have f1 : wr.frozen? ⟨w.heap.size + 1, 16 + k, none⟩ = false := froz_row H1.out _
          have hwr : IntKind.i64.wrap (16 + (k : Int)) = ((16 + k : Nat) : Int) := by rw [IntKind.wrap_i64]; omega
          have hl5 : (k : Int) < 22 := by omega
          have e1 : fillB (k + 1) = (fillB k).setIfInBounds (16 + k) (.string (locksL.getD k ⟨#[]⟩)) := rfl
          have E1 := Lib.hid e1
          clear e1
          generalize locksL.getD k ⟨#[]⟩ = x at *
          go_wp2
          go_roundg (22 - (k + 1))
          case measure => omega
          case rel => exact ⟨k + 1, by omega, rfl, by go_num, by simpa [World.setCell] using hsz, (Below.heap_setCell _ _ _ _ (by show w.heap.size ≠ w.heap.size + 1; omega)).trans H0.out, by rw [E1.out]; exact row_set H1.out (16 + k) _, (Below.heap_setCell _ _ _ _ (by show w.heap.size + 3 ≠ w.heap.size + 1; omega)).trans H2.out, HB.out.setCell (by show w.heap.size ≤ w.heap.size + 1; omega) _⟩
        · obtain rfl : k = 22 := by omega
          clear H2
          have h1 := H1.out
          rw [fill_all] at h1
          go_upto_region 12 with (fail)
          apply wp_region_lit
          refine wpList_plain rfl fun _ hK => wp_load_row 57 _ rfl (w.heap.size + 1) (by rfl) 57 nmV (0, 0) _ h1 Tryd.underlying57 rfl (by kernel_rfl) (hK _ _ ?_)
          refine wpList_store_row rfl 57 _ _ rfl w.heap.size nmV (by rfl) (by rfl) 57 zero57 H0.out (by kernel_rfl) (by kernel_rfl) (by kernel_rfl) ?_
          apply wpList_nil
          simp only [Act.put, List.setIfInBounds_toArray, List.set_cons_zero, List.set_cons_succ]
          have hb8 : Below w.heap.size w (wr.setRow w.heap.size nmV) := below_setRow HB.out (Nat.le_refl _) _
          have h8 : (wr.setRow w.heap.size nmV).heap[w.heap.size]? = some (.cells nmV 57 (0, 0)) := setRow_heap _ _ _ _ _ _ H0.out
          generalize wr.setRow w.heap.size nmV = wz at *
          go_wp2_with fail
          refine bodyPost_ret (v := .agg nmV) ?_ rfl ⟨rfl, hb8⟩
          have hl := run_loadVar_row (P := Tryd.prog) wz w.heap.size 57 57 nmV (0, 0) _ h8 Tryd.underlying57 rfl (by kernel_rfl)
          exact results_cell Tryd.results23 rfl hl
set_option maxRecDepth 100000 in
theorem rname_any (k : Nat) (hk : k < 256) (w : World) : Calls Tryd.prog 17 #[.int .i64 (k : Int)] w fun e w' => e = .returned (.string (nmS k)) ∧ Below w.heap.size w w' := by
  have h0 : ¬ (k : Int) < 0 := by omega
  by_cases hlt : k < 38
  · have hq := kinds_any w
    have hi := idx57 k hlt
    have h37 : ¬ (37 : Int) < (k : Int) := by omega
    generalize nmV = V at *
    generalize nmS k = x at *
    go_enter Tryd.func17, Tryd.ntmps17
    go_wp2_with (go_at_call 23; refine hq.mono ?_; rintro e w' ⟨rfl, hb⟩; rename World => w1)
    go_ret
    exact ⟨rfl, hb⟩
  · rw [nmS_far (by omega)]
    have h37 : (37 : Int) < (k : Int) := by omega
    go_enter Tryd.func17, Tryd.ntmps17
    go_wp2
    go_ret
    exact ⟨rfl, Below.refl _ _⟩
end Go.Proofs.YtoefgfolokcdhaaDoor
