/- A Join's step, by what its first part does; counting; the lock, and the Free, of a bucket. -/
import Derived.Test.YtdodloannlfnlaaGreatS17B
set_option linter.unusedVariables false
set_option linter.unusedSimpArgs false
namespace Go.Proofs.YtdodloannlfnlaaGreat.S17
open Go.Proofs.YtdodloannlfnlaaGreat Go.Proofs.YtdodloannlfnlaaGreat.S11 Go.Proofs.YtdodloannlfnlaaGreat.S12 Go.Proofs.YtdodloannlfnlaaGreat.S13 Go.Proofs.YtdodloannlfnlaaGreat.S14 Go.Proofs.YtdodloannlfnlaaGreat.S15
open Go.RowKit

theorem set_eq {r : List Part} {i : Nat} {p : Part} (h : r[i]? = some p) : r.set i p = r := by
  obtain ⟨hl, e⟩ := List.getElem?_eq_some_iff.1 h
  rw [← e]; exact List.set_getElem_self hl
theorem Pg.push1 {w0 w w' : World} {base WB : Nat} {M : Sd} {r : List Part} {X : Wm} (h : Pg w0 w base WB M r X) (q : Part) (b : Below w.heap.size w w') (hq : q.ok w') (hf : ∀ k, q.fp k → w.heap.size ≤ k) : Pg w0 w' base WB M (r ++ [q]) X := by
  have hp := h.ps.push q b hq hf
  rw [List.append_assoc] at hp
  exact ⟨hp, h.wB, h.xm, h.bl.trans (b.mono h.ps.size), h.tnb⟩
section
variable {w0 w w' : World} {base WB : Nat} {M : Sd} {r : List Part} {j B m U : Nat} {t b : Int} {s : Value} {L : List Value} {X : Wm}
theorem jover (h : JnAt w B t b s L) : Calls Tryz.prog 6 #[Pw B] w fun e w' => e = .returned (.bool (decide (L.length = 0))) ∧ w = w' := by
  obtain ⟨A, cap, rfl, hc, hc9⟩ := h.own.shape
  have c2 : w.cell? ⟨B, 2, none⟩ = some (.slice A L.length cap) := cell_row h.row 2
  clear h
  generalize L.length = n at *
  go_enter Tryz.func6, Tryz.ntmps6
  go_wp2_with fail
  go_ret
  exact ⟨by rw [show ((n : Int) == 0) = decide (n = 0) by cases n <;> rfl]; rfl, rfl⟩
theorem jover_nil (w : World) : Calls Tryz.prog 6 #[.pointer none] w fun e w' => e = .returned (.bool true) ∧ w = w' := by
  go_enter Tryz.func6, Tryz.ntmps6
  go_wp2_with fail
  go_ret
  exact ⟨rfl, rfl⟩
set_option maxRecDepth 100000 in
set_option maxHeartbeats 4000000 in
/-- A step, by which the first part is over. -/
theorem jstepC  (h : Jw w0 w base WB M r j B t b s (.iface 93 (.agg #[]) :: L) X) 
    (C : Sd → List Part → Int → List Value → Prop) (o : Bool) (ho : ∀ M' r' b' L', C M' r' b' L' → decide (L'.length = 0) = o)
    (hst : Calls Tryz.prog 155 #[(.agg #[]), Pw B, Pw WB] w fun e w' => e = .returned (.bool true) ∧ ∃ M' r' b' s' L' X', C M' r' b' L' ∧ Jw w0 w' base WB M' r' j B t b' s' (.iface 93 (.agg #[]) :: L') X') :
    Calls Tryz.prog 7 #[Pw B, Pw WB] w fun e w' => e = .returned (.bool o) ∧ ∃ M' r' b' s' L' X', C M' r' b' L' ∧ Jw w0 w' base WB M' r' j B t b' s' L' X' := by
  have hov := jover h.at
  rw [show decide ((Value.iface 93 (.agg #[]) :: L).length = 0) = false from rfl] at hov
  obtain ⟨g, of, cap, rfl, cv, hc1, hc2, -⟩ := row_tail h.at.own
  have c2 := h.c2
  have hm1 := m_count w
  have hc9 : cap < 9223372036854775808 := by unfold maxLen at hc2; omega
  have d0 : decide (0 < L.length + 1) = true := by simp
  have HOV := Lib.hid hov; have HST := Lib.hid hst; have HO := Lib.hid ho
  clear h hov hst ho
  go_enter Tryz.func7, Tryz.ntmps7
  go_upto_region 2 with (first
    | (go_at_call 6; refine HOV.out.mono ?_; rintro e w1 ⟨rfl, rfl⟩)
    | (go_at_call 155; refine HST.out.mono ?_; rintro e w2 ⟨rfl, M', r', b', s', L', X', hC, hj⟩; have HC := Lib.hid hC; have HJ := Lib.hid hj; clear hC hj))
  obtain ⟨g', of', cap', hs', cv', hk1, hk2, ht⟩ := row_tail HJ.out.at.own
  have y2 := HJ.out.c2
  have z2 := HJ.out.f2
  rw [hs'] at y2
  have hone : ∀ u ∈ L', u.oneCell' = true := fun u hu => HJ.out.at.one u (List.mem_cons_of_mem _ hu)
  have hj2 := HJ.out.sets (w1 := w2) (s' := .slice (some ⟨g', if cap' = 1 then of' else of' + 1, none⟩) L'.length (cap' - 1)) (L' := L') (Turns.refl _ _) (.inl (by rw [hs']; rfl)) ht hone
  have hk9 : cap' < 9223372036854775808 := by unfold maxLen at hk2; omega
  have HJ2 := Lib.hid hj2
  have HS' := Lib.hid hs'
  clear hj2 ht hone hs'
  go_upto_region 3 with fail
  rw [show (if cap' = 1 then some (⟨g', of', none⟩ : Addr) else some ⟨g', of' + 1, none⟩) = some ⟨g', if cap' = 1 then of' else of' + 1, none⟩ by split <;> rfl]
  generalize (if cap' = 1 then of' else of' + 1) = oo at *
  generalize w2.setCell ⟨B, 2, none⟩ (.slice (some ⟨g', oo, none⟩) L'.length (cap' - 1)) = w3 at *
  have hov2 := jover HJ2.out.at
  rw [HO.out _ _ _ _ HC.out] at hov2
  have HOV2 := Lib.hid hov2
  clear hov2
  go_wp2_with (go_at_call 6; refine HOV2.out.mono ?_; rintro e w4 ⟨rfl, rfl⟩)
  go_ret
  exact ⟨rfl, M', r', b', _, L', X', HC.out, HJ2.out⟩
set_option maxRecDepth 100000 in
set_option maxHeartbeats 4000000 in
/-- A step, by which the first part is over. -/
theorem jstepL  (h : Jw w0 w base WB M r j B t b s (.iface 94 (.agg #[]) :: L) X) 
    (C : Sd → List Part → Int → List Value → Prop) (o : Bool) (ho : ∀ M' r' b' L', C M' r' b' L' → decide (L'.length = 0) = o)
    (hst : Calls Tryz.prog 160 #[(.agg #[]), Pw B, Pw WB] w fun e w' => e = .returned (.bool true) ∧ ∃ M' r' b' s' L' X', C M' r' b' L' ∧ Jw w0 w' base WB M' r' j B t b' s' (.iface 94 (.agg #[]) :: L') X') :
    Calls Tryz.prog 7 #[Pw B, Pw WB] w fun e w' => e = .returned (.bool o) ∧ ∃ M' r' b' s' L' X', C M' r' b' L' ∧ Jw w0 w' base WB M' r' j B t b' s' L' X' := by
  have hov := jover h.at
  rw [show decide ((Value.iface 94 (.agg #[]) :: L).length = 0) = false from rfl] at hov
  obtain ⟨g, of, cap, rfl, cv, hc1, hc2, -⟩ := row_tail h.at.own
  have c2 := h.c2
  have hm1 := m_look w
  have hc9 : cap < 9223372036854775808 := by unfold maxLen at hc2; omega
  have d0 : decide (0 < L.length + 1) = true := by simp
  have HOV := Lib.hid hov; have HST := Lib.hid hst; have HO := Lib.hid ho
  clear h hov hst ho
  go_enter Tryz.func7, Tryz.ntmps7
  go_upto_region 2 with (first
    | (go_at_call 6; refine HOV.out.mono ?_; rintro e w1 ⟨rfl, rfl⟩)
    | (go_at_call 160; refine HST.out.mono ?_; rintro e w2 ⟨rfl, M', r', b', s', L', X', hC, hj⟩; have HC := Lib.hid hC; have HJ := Lib.hid hj; clear hC hj))
  obtain ⟨g', of', cap', hs', cv', hk1, hk2, ht⟩ := row_tail HJ.out.at.own
  have y2 := HJ.out.c2
  have z2 := HJ.out.f2
  rw [hs'] at y2
  have hone : ∀ u ∈ L', u.oneCell' = true := fun u hu => HJ.out.at.one u (List.mem_cons_of_mem _ hu)
  have hj2 := HJ.out.sets (w1 := w2) (s' := .slice (some ⟨g', if cap' = 1 then of' else of' + 1, none⟩) L'.length (cap' - 1)) (L' := L') (Turns.refl _ _) (.inl (by rw [hs']; rfl)) ht hone
  have hk9 : cap' < 9223372036854775808 := by unfold maxLen at hk2; omega
  have HJ2 := Lib.hid hj2
  have HS' := Lib.hid hs'
  clear hj2 ht hone hs'
  go_upto_region 3 with fail
  rw [show (if cap' = 1 then some (⟨g', of', none⟩ : Addr) else some ⟨g', of' + 1, none⟩) = some ⟨g', if cap' = 1 then of' else of' + 1, none⟩ by split <;> rfl]
  generalize (if cap' = 1 then of' else of' + 1) = oo at *
  generalize w2.setCell ⟨B, 2, none⟩ (.slice (some ⟨g', oo, none⟩) L'.length (cap' - 1)) = w3 at *
  have hov2 := jover HJ2.out.at
  rw [HO.out _ _ _ _ HC.out] at hov2
  have HOV2 := Lib.hid hov2
  clear hov2
  go_wp2_with (go_at_call 6; refine HOV2.out.mono ?_; rintro e w4 ⟨rfl, rfl⟩)
  go_ret
  exact ⟨rfl, M', r', b', _, L', X', HC.out, HJ2.out⟩
set_option maxRecDepth 100000 in
set_option maxHeartbeats 4000000 in
/-- A step, by which the first part is over. -/
theorem jstepA {y : Value} (h : Jw w0 w base WB M r j B t b s (.iface 280 (.agg #[y]) :: L) X) 
    (C : Sd → List Part → Int → List Value → Prop) (o : Bool) (ho : ∀ M' r' b' L', C M' r' b' L' → decide (L'.length = 0) = o)
    (hst : Calls Tryz.prog 189 #[(.agg #[y]), Pw B, Pw WB] w fun e w' => e = .returned (.bool true) ∧ ∃ M' r' b' s' L' X', C M' r' b' L' ∧ Jw w0 w' base WB M' r' j B t b' s' (.iface 280 (.agg #[y]) :: L') X') :
    Calls Tryz.prog 7 #[Pw B, Pw WB] w fun e w' => e = .returned (.bool o) ∧ ∃ M' r' b' s' L' X', C M' r' b' L' ∧ Jw w0 w' base WB M' r' j B t b' s' L' X' := by
  have hov := jover h.at
  rw [show decide ((Value.iface 280 (.agg #[y]) :: L).length = 0) = false from rfl] at hov
  obtain ⟨g, of, cap, rfl, cv, hc1, hc2, -⟩ := row_tail h.at.own
  have c2 := h.c2
  have hm1 := m_ask y w
  have hc9 : cap < 9223372036854775808 := by unfold maxLen at hc2; omega
  have d0 : decide (0 < L.length + 1) = true := by simp
  have HOV := Lib.hid hov; have HST := Lib.hid hst; have HO := Lib.hid ho
  clear h hov hst ho
  go_enter Tryz.func7, Tryz.ntmps7
  go_upto_region 2 with (first
    | (go_at_call 6; refine HOV.out.mono ?_; rintro e w1 ⟨rfl, rfl⟩)
    | (go_at_call 189; refine HST.out.mono ?_; rintro e w2 ⟨rfl, M', r', b', s', L', X', hC, hj⟩; have HC := Lib.hid hC; have HJ := Lib.hid hj; clear hC hj))
  obtain ⟨g', of', cap', hs', cv', hk1, hk2, ht⟩ := row_tail HJ.out.at.own
  have y2 := HJ.out.c2
  have z2 := HJ.out.f2
  rw [hs'] at y2
  have hone : ∀ u ∈ L', u.oneCell' = true := fun u hu => HJ.out.at.one u (List.mem_cons_of_mem _ hu)
  have hj2 := HJ.out.sets (w1 := w2) (s' := .slice (some ⟨g', if cap' = 1 then of' else of' + 1, none⟩) L'.length (cap' - 1)) (L' := L') (Turns.refl _ _) (.inl (by rw [hs']; rfl)) ht hone
  have hk9 : cap' < 9223372036854775808 := by unfold maxLen at hk2; omega
  have HJ2 := Lib.hid hj2
  have HS' := Lib.hid hs'
  clear hj2 ht hone hs'
  go_upto_region 3 with fail
  rw [show (if cap' = 1 then some (⟨g', of', none⟩ : Addr) else some ⟨g', of' + 1, none⟩) = some ⟨g', if cap' = 1 then of' else of' + 1, none⟩ by split <;> rfl]
  generalize (if cap' = 1 then of' else of' + 1) = oo at *
  generalize w2.setCell ⟨B, 2, none⟩ (.slice (some ⟨g', oo, none⟩) L'.length (cap' - 1)) = w3 at *
  have hov2 := jover HJ2.out.at
  rw [HO.out _ _ _ _ HC.out] at hov2
  have HOV2 := Lib.hid hov2
  clear hov2
  go_wp2_with (go_at_call 6; refine HOV2.out.mono ?_; rintro e w4 ⟨rfl, rfl⟩)
  go_ret
  exact ⟨rfl, M', r', b', _, L', X', HC.out, HJ2.out⟩
set_option maxRecDepth 100000 in
set_option maxHeartbeats 4000000 in
/-- A step, by which the first part is over. -/
theorem jstepR {y : Value} (h : Jw w0 w base WB M r j B t b s (.iface 311 (.agg #[y]) :: L) X) 
    (C : Sd → List Part → Int → List Value → Prop) (o : Bool) (ho : ∀ M' r' b' L', C M' r' b' L' → decide (L'.length = 0) = o)
    (hst : Calls Tryz.prog 195 #[(.agg #[y]), Pw B, Pw WB] w fun e w' => e = .returned (.bool true) ∧ ∃ M' r' b' s' L' X', C M' r' b' L' ∧ Jw w0 w' base WB M' r' j B t b' s' (.iface 311 (.agg #[y]) :: L') X') :
    Calls Tryz.prog 7 #[Pw B, Pw WB] w fun e w' => e = .returned (.bool o) ∧ ∃ M' r' b' s' L' X', C M' r' b' L' ∧ Jw w0 w' base WB M' r' j B t b' s' L' X' := by
  have hov := jover h.at
  rw [show decide ((Value.iface 311 (.agg #[y]) :: L).length = 0) = false from rfl] at hov
  obtain ⟨g, of, cap, rfl, cv, hc1, hc2, -⟩ := row_tail h.at.own
  have c2 := h.c2
  have hm1 := m_repl y w
  have hc9 : cap < 9223372036854775808 := by unfold maxLen at hc2; omega
  have d0 : decide (0 < L.length + 1) = true := by simp
  have HOV := Lib.hid hov; have HST := Lib.hid hst; have HO := Lib.hid ho
  clear h hov hst ho
  go_enter Tryz.func7, Tryz.ntmps7
  go_upto_region 2 with (first
    | (go_at_call 6; refine HOV.out.mono ?_; rintro e w1 ⟨rfl, rfl⟩)
    | (go_at_call 195; refine HST.out.mono ?_; rintro e w2 ⟨rfl, M', r', b', s', L', X', hC, hj⟩; have HC := Lib.hid hC; have HJ := Lib.hid hj; clear hC hj))
  obtain ⟨g', of', cap', hs', cv', hk1, hk2, ht⟩ := row_tail HJ.out.at.own
  have y2 := HJ.out.c2
  have z2 := HJ.out.f2
  rw [hs'] at y2
  have hone : ∀ u ∈ L', u.oneCell' = true := fun u hu => HJ.out.at.one u (List.mem_cons_of_mem _ hu)
  have hj2 := HJ.out.sets (w1 := w2) (s' := .slice (some ⟨g', if cap' = 1 then of' else of' + 1, none⟩) L'.length (cap' - 1)) (L' := L') (Turns.refl _ _) (.inl (by rw [hs']; rfl)) ht hone
  have hk9 : cap' < 9223372036854775808 := by unfold maxLen at hk2; omega
  have HJ2 := Lib.hid hj2
  have HS' := Lib.hid hs'
  clear hj2 ht hone hs'
  go_upto_region 3 with fail
  rw [show (if cap' = 1 then some (⟨g', of', none⟩ : Addr) else some ⟨g', of' + 1, none⟩) = some ⟨g', if cap' = 1 then of' else of' + 1, none⟩ by split <;> rfl]
  generalize (if cap' = 1 then of' else of' + 1) = oo at *
  generalize w2.setCell ⟨B, 2, none⟩ (.slice (some ⟨g', oo, none⟩) L'.length (cap' - 1)) = w3 at *
  have hov2 := jover HJ2.out.at
  rw [HO.out _ _ _ _ HC.out] at hov2
  have HOV2 := Lib.hid hov2
  clear hov2
  go_wp2_with (go_at_call 6; refine HOV2.out.mono ?_; rintro e w4 ⟨rfl, rfl⟩)
  go_ret
  exact ⟨rfl, M', r', b', _, L', X', HC.out, HJ2.out⟩
set_option maxRecDepth 100000 in
set_option maxHeartbeats 4000000 in
/-- A step, by which the first part is over. -/
theorem jstepU {y : Value} (h : Jw w0 w base WB M r j B t b s (.iface 286 (.agg #[y]) :: L) X) 
    (C : Sd → List Part → Int → List Value → Prop) (o : Bool) (ho : ∀ M' r' b' L', C M' r' b' L' → decide (L'.length = 0) = o)
    (hst : Calls Tryz.prog 194 #[(.agg #[y]), Pw B, Pw WB] w fun e w' => e = .returned (.bool true) ∧ ∃ M' r' b' s' L' X', C M' r' b' L' ∧ Jw w0 w' base WB M' r' j B t b' s' (.iface 286 (.agg #[y]) :: L') X') :
    Calls Tryz.prog 7 #[Pw B, Pw WB] w fun e w' => e = .returned (.bool o) ∧ ∃ M' r' b' s' L' X', C M' r' b' L' ∧ Jw w0 w' base WB M' r' j B t b' s' L' X' := by
  have hov := jover h.at
  rw [show decide ((Value.iface 286 (.agg #[y]) :: L).length = 0) = false from rfl] at hov
  obtain ⟨g, of, cap, rfl, cv, hc1, hc2, -⟩ := row_tail h.at.own
  have c2 := h.c2
  have hm1 := m_under y w
  have hc9 : cap < 9223372036854775808 := by unfold maxLen at hc2; omega
  have d0 : decide (0 < L.length + 1) = true := by simp
  have HOV := Lib.hid hov; have HST := Lib.hid hst; have HO := Lib.hid ho
  clear h hov hst ho
  go_enter Tryz.func7, Tryz.ntmps7
  go_upto_region 2 with (first
    | (go_at_call 6; refine HOV.out.mono ?_; rintro e w1 ⟨rfl, rfl⟩)
    | (go_at_call 194; refine HST.out.mono ?_; rintro e w2 ⟨rfl, M', r', b', s', L', X', hC, hj⟩; have HC := Lib.hid hC; have HJ := Lib.hid hj; clear hC hj))
  obtain ⟨g', of', cap', hs', cv', hk1, hk2, ht⟩ := row_tail HJ.out.at.own
  have y2 := HJ.out.c2
  have z2 := HJ.out.f2
  rw [hs'] at y2
  have hone : ∀ u ∈ L', u.oneCell' = true := fun u hu => HJ.out.at.one u (List.mem_cons_of_mem _ hu)
  have hj2 := HJ.out.sets (w1 := w2) (s' := .slice (some ⟨g', if cap' = 1 then of' else of' + 1, none⟩) L'.length (cap' - 1)) (L' := L') (Turns.refl _ _) (.inl (by rw [hs']; rfl)) ht hone
  have hk9 : cap' < 9223372036854775808 := by unfold maxLen at hk2; omega
  have HJ2 := Lib.hid hj2
  have HS' := Lib.hid hs'
  clear hj2 ht hone hs'
  go_upto_region 3 with fail
  rw [show (if cap' = 1 then some (⟨g', of', none⟩ : Addr) else some ⟨g', of' + 1, none⟩) = some ⟨g', if cap' = 1 then of' else of' + 1, none⟩ by split <;> rfl]
  generalize (if cap' = 1 then of' else of' + 1) = oo at *
  generalize w2.setCell ⟨B, 2, none⟩ (.slice (some ⟨g', oo, none⟩) L'.length (cap' - 1)) = w3 at *
  have hov2 := jover HJ2.out.at
  rw [HO.out _ _ _ _ HC.out] at hov2
  have HOV2 := Lib.hid hov2
  clear hov2
  go_wp2_with (go_at_call 6; refine HOV2.out.mono ?_; rintro e w4 ⟨rfl, rfl⟩)
  go_ret
  exact ⟨rfl, M', r', b', _, L', X', HC.out, HJ2.out⟩
set_option maxRecDepth 100000 in
set_option maxHeartbeats 4000000 in
/-- One more that joined. -/
theorem count_step (h : Jw w0 w base WB M r j B t b s L X) (hn : M.n ≤ 1000000000) :
    Calls Tryz.prog 155 #[.agg #[], Pw B, Pw WB] w fun e w' => e = .returned (.bool true) ∧ ∃ X', Jw w0 w' base WB (M.acc 5 1 ((S2.look M.L 1 + 1) % 18446744073709551616)) r j B t ((thB (min (S2.look M.L 1) 63 + 1) : Nat) : Int) s L X' := by
  obtain ⟨u, hu⟩ : ∃ u, u = S2.look M.L 1 := ⟨_, rfl⟩
  have hul : u < 18446744073709551616 := by rw [hu]; exact h.look 1
  have h1 := h.new (below1 w (.cells #[] 93))
  have hc0 := h1.pg.c.1
  have HA := Lib.hid (Pg.addc h1.pg (a := 1) (v := 1) (by omega) (by omega) hn)
  rw [← hu] at HA ⊢
  have HJ := Lib.hid h.hj
  have hjn : ∀ W, Calls Tryz.prog 157 #[.int .u64 (u : Int)] W fun e w' => e = .returned (.int .i64 ((min u 63 + 1 : Nat) : Int)) ∧ W = w' := joined_any u hul
  have hbt : ∀ W, Calls Tryz.prog 156 #[.int .i64 ((min u 63 + 1 : Nat) : Int)] W fun e w' => e = .returned (.int .i64 ((thB (min u 63 + 1) : Nat) : Int)) ∧ W = w' := hbits_any (min u 63 + 1) (by omega)
  generalize min u 63 + 1 = q at *
  have HJN := Lib.hid hjn; have HBT := Lib.hid hbt
  clear h h1 hu hul hjn hbt
  obtain ⟨w1, hw1⟩ : ∃ w1, w1 = w.alloc (.cells #[] 93) := ⟨_, rfl⟩
  rw [← hw1] at hc0 HA
  have HW1 := Lib.hid hw1
  clear hw1
  go_enter Tryz.func155, Tryz.ntmps155
  go_upto_region 1 with fail
  rw [← HW1.out]
  go_upto_region 2 with (first
    | (go_at_call 158; refine HA.out.mono ?_; rintro e w2 ⟨rfl, X', hp, -⟩; have H2 := Lib.hid (Jw.mk hp HJ.out); have f1 := H2.out.f1; have c1 := H2.out.c1; clear hp)
    | (go_at_call 157; refine (HJN.out _).mono ?_; rintro e w3 ⟨rfl, rfl⟩)
    | (go_at_call 156; refine (HBT.out _).mono ?_; rintro e w4 ⟨rfl, rfl⟩))
  have h3 := H2.out.setb ((thB q : Nat) : Int)
  have H3 := Lib.hid h3
  clear h3
  go_wp2_with fail
  go_ret
  exact ⟨rfl, X', H3.out⟩
theorem Jw.lock (h : Jw w0 w base WB M r j B t b s L X) (hjm : j ≠ m) {K : Lk} (hu : r[m]? = some (lockP U K)) : Wl w0 w base WB M (r.set j (joinP B t b s L)) m U K X := by
  have e : (r.set j (joinP B t b s L))[m]? = some (lockP U K) := (List.getElem?_set_ne hjm).trans hu
  exact ⟨by rw [set_eq e]; exact h.pg, (List.getElem?_eq_some_iff.1 e).1⟩
theorem Jw.free (h : Jw w0 w base WB M r j B t b s L X) (hjm : j ≠ m) {K : Fr} (hu : r[m]? = some (freeP U K)) : Wf w0 w base WB M (r.set j (joinP B t b s L)) m U K X := by
  have e : (r.set j (joinP B t b s L))[m]? = some (freeP U K) := (List.getElem?_set_ne hjm).trans hu
  exact ⟨by rw [set_eq e]; exact h.pg, (List.getElem?_eq_some_iff.1 e).1⟩
theorem jw_lock {K : Lk} (h : Wl w0 w base WB M (r.set j (joinP B t b s L)) m U K X) (hjm : j ≠ m) (hj : j < r.length) : Jw w0 w base WB M (r.set m (lockP U K)) j B t b s L X := by
  have hp := h.pg
  rw [List.set_comm _ _ hjm] at hp
  exact ⟨hp, by rw [List.length_set]; exact hj⟩
theorem jw_free {K : Fr} (h : Wf w0 w base WB M (r.set j (joinP B t b s L)) m U K X) (hjm : j ≠ m) (hj : j < r.length) : Jw w0 w base WB M (r.set m (freeP U K)) j B t b s L X := by
  have hp := h.pg
  rw [List.set_comm _ _ hjm] at hp
  exact ⟨hp, by rw [List.length_set]; exact hj⟩
set_option maxRecDepth 100000 in
set_option maxHeartbeats 4000000 in
/-- A step of the lock of a bucket. -/
theorem lock_step (h : Jw w0 w base WB M r j B t b s L X) (hjm : j ≠ m) {K : Lk} (hu : r[m]? = some (lockP U K)) (ok : LkOk M K) (h6 : K.ln ≤ 6) :
    Calls Tryz.prog 194 #[.agg #[.iface 281 (Pw U)], Pw B, Pw WB] w fun e w' => e = .returned (.bool (decide ((stepK M K).ln = 0))) ∧ ∃ X', Jw w0 w' base WB (stepM M K) (r.set m (lockP U (stepK M K))) j B t b s L X' := by
  have h1 := h.new (below1 w (.cells #[.iface 281 (Pw U)] 286))
  have c0 : (w.alloc (.cells #[.iface 281 (Pw U)] 286)).cell? ⟨w.heap.size, 0, none⟩ = some (.iface 281 (Pw U)) := cell_row (heap_alloc_new w _) 0
  have hm1 := meth_step ⟨U, 0, none⟩ (w.alloc (.cells #[.iface 281 (Pw U)] 286))
  have HST := Lib.hid (step_any (h1.lock hjm hu) ok h6)
  have HJ := Lib.hid h.hj; have HJM := Lib.hid hjm
  clear h h1 hu ok h6 hjm
  generalize decide ((stepK M K).ln = 0) = bb at *
  obtain ⟨w1, hw1⟩ : ∃ w1, w1 = w.alloc (.cells #[.iface 281 (Pw U)] 286) := ⟨_, rfl⟩
  obtain ⟨Q, hQ⟩ : ∃ Q, Q = w.heap.size := ⟨_, rfl⟩
  rw [← hw1] at c0 HST hm1
  rw [← hQ] at c0
  have HW1 := Lib.hid hw1; have HQ := Lib.hid hQ
  clear hw1 hQ
  go_enter Tryz.func194, Tryz.ntmps194
  go_upto_region 1 with fail
  rw [← HW1.out, ← HQ.out]
  go_wp2_with (go_at_call 193; refine HST.out.mono ?_; rintro e w2 ⟨rfl, hs⟩; have HS := Lib.hid hs; clear hs)
  go_ret
  obtain ⟨X', h'⟩ := HS.out
  exact ⟨rfl, X', jw_lock h' HJM.out HJ.out⟩
set_option maxRecDepth 100000 in
set_option maxHeartbeats 4000000 in
/-- A step of the Free of a bucket. -/
theorem free_step (h : Jw w0 w base WB M r j B t b s L X) (hjm : j ≠ m) {K : Fr} (hu : r[m]? = some (freeP U K)) (ok : FrOk M K) (h7 : K.ln ≤ 7) :
    Calls Tryz.prog 194 #[.agg #[.iface 312 (Pw U)], Pw B, Pw WB] w fun e w' => e = .returned (.bool (decide ((fstepK M K).ln = 0))) ∧ ∃ X', Jw w0 w' base WB (fstepM M K) (r.set m (freeP U (fstepK M K))) j B t b s L X' := by
  have h1 := h.new (below1 w (.cells #[.iface 312 (Pw U)] 286))
  have c0 : (w.alloc (.cells #[.iface 312 (Pw U)] 286)).cell? ⟨w.heap.size, 0, none⟩ = some (.iface 312 (Pw U)) := cell_row (heap_alloc_new w _) 0
  have hm1 := meth_free ⟨U, 0, none⟩ (w.alloc (.cells #[.iface 312 (Pw U)] 286))
  have HST := Lib.hid (step_f (h1.free hjm hu) ok h7)
  have HJ := Lib.hid h.hj; have HJM := Lib.hid hjm
  clear h h1 hu ok h7 hjm
  generalize decide ((fstepK M K).ln = 0) = bb at *
  obtain ⟨w1, hw1⟩ : ∃ w1, w1 = w.alloc (.cells #[.iface 312 (Pw U)] 286) := ⟨_, rfl⟩
  obtain ⟨Q, hQ⟩ : ∃ Q, Q = w.heap.size := ⟨_, rfl⟩
  rw [← hw1] at c0 HST hm1
  rw [← hQ] at c0
  have HW1 := Lib.hid hw1; have HQ := Lib.hid hQ
  clear hw1 hQ
  go_enter Tryz.func194, Tryz.ntmps194
  go_upto_region 1 with fail
  rw [← HW1.out, ← HQ.out]
  go_wp2_with (go_at_call 197; refine HST.out.mono ?_; rintro e w2 ⟨rfl, hs⟩; have HS := Lib.hid hs; clear hs)
  go_ret
  obtain ⟨X', h'⟩ := HS.out
  exact ⟨rfl, X', jw_free h' HJM.out HJ.out⟩
end
end Go.Proofs.YtdodloannlfnlaaGreat.S17
