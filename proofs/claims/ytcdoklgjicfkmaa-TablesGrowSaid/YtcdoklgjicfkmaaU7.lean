/- The document's Grow. -/
import Derived.Test.YtcdoklgjicfkmaaU6
namespace Go.Proofs.Ytcdoklgjicfkmaa
open Go.RowKit

section
variable {w : World} {base : Nat} {own : Nat → Option Role} {s : Value} {M : Int → List Bk}
theorem rgrow_no (h : Rt w base own s M) {fr tg : Int} (now : Int) (hno : M fr = [] ∨ tg ≤ fr ∨ 8 < tg ∨ M tg ≠ []) :
    Calls Try.prog 35 #[s, .int .i64 fr, .int .i64 tg, .int .u64 now] w fun e w' => e = .returned (.bool false) ∧ w = w' := by
  have HF := rhas_any h fr
  have HT := rhas_any h tg
  by_cases e0 : M fr = []
  · rw [e0] at HF
    have hf0 : decide (0 < ([] : List Bk).length) = false := by decide
    rw [hf0] at HF
    have HF := Lib.hid HF
    clear h HT
    go_enter Try.func35, Try.ntmps35
    go_wp2_with (go_at_call 39; refine HF.out.mono ?_; rintro e w' ⟨rfl, rfl⟩)
    go_ret
    exact ⟨rfl, rfl⟩
  · have hf1 : decide (0 < (M fr).length) = true := by simpa using List.length_pos_iff.2 e0
    rw [hf1] at HF
    have HF := Lib.hid HF
    by_cases e1 : tg ≤ fr
    · have d1 : decide (tg ≤ fr) = true := by simpa using e1
      clear h HT
      go_enter Try.func35, Try.ntmps35
      go_wp2_with (go_at_call 39; refine HF.out.mono ?_; rintro e w' ⟨rfl, rfl⟩)
      go_ret
      exact ⟨rfl, rfl⟩
    · have d1 : decide (tg ≤ fr) = false := by simpa using e1
      by_cases e2 : 8 < tg
      · have d2 : decide (8 < tg) = true := by simpa using e2
        clear h HT
        go_enter Try.func35, Try.ntmps35
        go_wp2_with (go_at_call 39; refine HF.out.mono ?_; rintro e w' ⟨rfl, rfl⟩)
        go_ret
        exact ⟨rfl, rfl⟩
      · have d2 : decide (8 < tg) = false := by simpa using e2
        have e3 : M tg ≠ [] := by
          rcases hno with h | h | h | h
          · exact absurd h e0
          · exact absurd h e1
          · exact absurd h e2
          · exact h
        have hf2 : decide (0 < (M tg).length) = true := by simpa using List.length_pos_iff.2 e3
        rw [hf2] at HT
        have HT := Lib.hid HT
        clear h
        go_enter Try.func35, Try.ntmps35
        go_wp2_with (first
          | (go_at_call 39; ((with_reducible refine HF.out.mono ?_)); rintro e w' ⟨rfl, rfl⟩)
          | (go_at_call 39; ((with_reducible refine HT.out.mono ?_)); rintro e w' ⟨rfl, rfl⟩))
        go_ret
        exact ⟨rfl, rfl⟩
/-- The eighteen cells of the document's set. -/
def CV (w : World) (rb : Nat) (f : Nat → Value) : Prop := ∀ j, j < 18 → w.cell? ⟨rb, j, none⟩ = some (f j) ∧ w.frozen? ⟨rb, j, none⟩ = false
theorem CV.turn {w w' : World} {rb : Nat} {f : Nat → Value} (h : CV w rb f) (hb : Below w.heap.size w w') (hl : rb < w.heap.size) : CV w' rb f := fun j hj =>
  ⟨(hb.cell (p := ⟨rb, j, none⟩) hl).trans (h j hj).1, (hb.frozen (p := ⟨rb, j, none⟩) hl).trans (h j hj).2⟩
theorem CV.set {w : World} {rb : Nat} {f : Nat → Value} (h : CV w rb f) {i : Nat} (hi : i < 18) (v : Value) : CV (w.setCell ⟨rb, i, none⟩ v) rb (upd f i v) := fun j hj => by
  refine ⟨?_, (World.frozen?_setCell _ _ _ _).trans (h j hj).2⟩
  by_cases e : j = i
  · subst e
    rw [upd_same]
    exact World.cell?_setCell_same _ _ _ (h j hj).1
  · rw [upd_ne _ _ e]
    exact (World.cell?_setCell_other _ _ _ _ (by simp <;> omega)).trans (h j hj).1
set_option maxHeartbeats 4000000 in
set_option maxRecDepth 20000 in
theorem rgrow_yes (hst : Rt w base own s M) {fr tg : Int} (now : Int) (h0 : M fr ≠ []) (h1 : fr < tg) (h2 : tg ≤ 8) (h3 : M tg = []) {N Nf : Nat} {h hf : Nat → Nat} (K : Kit tg N h) (Kf : Kit fr Nf hf)
    (hl : (M fr).length = Nf) (hkeys : Keys ((M fr).map Bk.q).flatten) (hfew : ((M fr).map Bk.q).flatten.length ≤ 100000) :
    Calls Try.prog 35 #[s, .int .i64 fr, .int .i64 tg, .int .u64 now] w fun e w' => e = .returned (.bool true) ∧ ∃ own', Rt w' base own' s (grown M h N fr tg now) ∧ Turns (Mine own) w w' ∧ Fresh own own' w := by
  obtain ⟨rb, Q, T, V, H⟩ := hst
  obtain rfl := H.hs
  have HFR := rhas_any ⟨rb, Q, T, V, H⟩ fr
  have HTO := rhas_any ⟨rb, Q, T, V, H⟩ tg
  have hpos : 0 < (M fr).length := List.length_pos_iff.2 h0
  have hd0 : decide (0 < (M fr).length) = true := by simpa using hpos
  have hd1 : decide (0 < (M tg).length) = false := by rw [h3]; decide
  rw [hd0] at HFR
  rw [hd1] at HTO
  have HFR := Lib.hid HFR; have HTO := Lib.hid HTO
  have d1 : decide (tg ≤ fr) = false := by simpa using h1
  have d2 : decide (8 < tg) = false := by simpa using h2
  obtain ⟨fk, rfl, hf2, hf9⟩ := H.nat h0
  obtain ⟨tk, rfl⟩ := Int.eq_ofNat_of_zero_le (show 0 ≤ tg by omega)
  have hft : fk < tk := by omega
  have ht9 : tk < 9 := by omega
  have hf9i : (fk : Int) < 9 := by omega
  have ht9i : (tk : Int) < 9 := by omega
  obtain ⟨E, hE⟩ : ∃ E, E = ((M (fk : Int)).map Bk.q).flatten := ⟨_, rfl⟩
  have hrl := (H.fp rb _ H.os).2
  have hNf := Kf.few
  have hNN := K.few
  -- the cells
  have hcv : CV w.drew rb (fun j => if j < 9 then Q j else T (j - 9)) := fun j hj => by
    dsimp only
    by_cases hj9 : j < 9
    · rw [if_pos hj9]; exact H.hQ j hj9
    · rw [if_neg hj9]
      have := H.hT (j - 9) (by omega)
      rw [show 9 + (j - 9) = j by omega] at this
      exact this
  obtain ⟨Aq, cq, eq, hcq, hcq9⟩ := (H.hq fk hf9).shape
  have hc0 : w.drew.cell? ⟨rb, fk, none⟩ = some (.slice Aq Nf cq) := by
    have := (H.hQ fk hf9).1
    rw [eq, hl] at this
    exact this
  -- the calls
  have HRE : Hid (Calls Try.prog 27 #[.slice Aq Nf cq, .int .i64 (tk : Int)] w.drew fun e w' => ∃ s ss, e = .returned s ∧ Tab w' w.heap.size s ss (reh h N E) ∧ Below w.heap.size w.drew w') := by
    have hq : Qs w.drew w.heap.size Aq ((M (fk : Int)).map Bk.q) := by
      have hr := H.hq fk hf9
      rw [eq] at hr
      refine ⟨qflat (M (fk : Int)).length (V fk), by simp [qflat_len], hr.rd, fun i hi => ?_⟩
      rw [List.length_map] at hi
      have hqi := H.hv fk i hi
      obtain ⟨A', c', e, k1, k2⟩ := hqi.shape
      rw [map_at _ hi]
      refine ⟨A', c', by rw [qflat_at _ hi]; exact congrArg some e, k1, k2, ?_⟩
      rw [e] at hqi
      exact hqi.rd
    have := rrehash_any (c := cq) h K.rsize K.rhash K.few hq (Nat.le_refl _) (by rw [List.length_map]; exact hcq) hcq9 hkeys (by rw [List.length_map]; omega) hfew
    rw [List.length_map, hl, ← hE] at this
    exact Lib.hid this
  have HBG := Lib.hid (fun W => rbegins_any (w := W) K.rsize K.few now)
  have HRN := Lib.hid (fun W => rehash_nil (w := W) Kf)
  have HH := Lib.hid H; have HCV := Lib.hid hcv; have HL := Lib.hid hl
  clear H hcv eq hl hcq hcq9 hd0 hd1
  go_enter Try.func35, Try.ntmps35
  go_upto_region 3 with (first
    | (go_at_call 39; ((with_reducible refine HFR.out.mono ?_)); rintro e w' ⟨rfl, rfl⟩)
    | (go_at_call 39; ((with_reducible refine HTO.out.mono ?_)); rintro e w' ⟨rfl, rfl⟩))
  refine wp_region_held_drew (S := fun w' => w'.cell? ⟨rb, fk, none⟩ = some (.slice Aq Nf cq)) (by kernel_rfl) ?_ (fun hHeld => ?_)
  · exact hc0
  refine wpAnyH_take (i := 0) (oi := ({ dst := some 27, op := Op.move (Operand.tmp 0), type := 27, pos := "ref.go:87", after := #[], guard := none } : Oper)) (v := ?va0) rfl (by kernel_rfl) (by kernel_rfl) (by kernel_rfl) (fun _ _ _ h => h) (Or.inl ⟨by rfl, fun w hSw => ?hya0⟩) (by assumption) ?ra0
  case hya0 => (try dsimp only at hSw); go_simp; (try with_reducible rfl)
  (try simp only [Act.put, List.setIfInBounds_toArray, List.set_cons_zero, List.set_cons_succ])
  refine wpAnyH_take (i := 1) (oi := ({ dst := some 28, op := Op.move (Operand.tmp 2), type := 3, pos := "ref.go:87", after := #[], guard := none } : Oper)) (v := ?va1) rfl (by kernel_rfl) (by kernel_rfl) (by kernel_rfl) (fun _ _ _ h => h) (Or.inl ⟨by rfl, fun w hSw => ?hya1⟩) (by assumption) ?ra1
  case hya1 => (try dsimp only at hSw); go_simp; (try with_reducible rfl)
  (try simp only [Act.put, List.setIfInBounds_toArray, List.set_cons_zero, List.set_cons_succ])
  refine wpAnyH_take (i := 2) (oi := ({ dst := some 29, op := Op.move (Operand.tmp 0), type := 27, pos := "ref.go:87", after := #[], guard := none } : Oper)) (v := ?va2) rfl (by kernel_rfl) (by kernel_rfl) (by kernel_rfl) (fun _ _ _ h => h) (Or.inl ⟨by rfl, fun w hSw => ?hya2⟩) (by assumption) ?ra2
  case hya2 => (try dsimp only at hSw); go_simp; (try with_reducible rfl)
  (try simp only [Act.put, List.setIfInBounds_toArray, List.set_cons_zero, List.set_cons_succ])
  refine wpAnyH_take (i := 3) (oi := ({ dst := some 30, op := Op.move (Operand.tmp 1), type := 3, pos := "ref.go:87", after := #[], guard := none } : Oper)) (v := ?va3) rfl (by kernel_rfl) (by kernel_rfl) (by kernel_rfl) (fun _ _ _ h => h) (Or.inl ⟨by rfl, fun w hSw => ?hya3⟩) (by assumption) ?ra3
  case hya3 => (try dsimp only at hSw); go_simp; (try with_reducible rfl)
  (try simp only [Act.put, List.setIfInBounds_toArray, List.set_cons_zero, List.set_cons_succ])
  refine wpAnyH_take (i := 4) (oi := ({ dst := some 31, op := Op.nilCheck (Operand.tmp 29), type := 0, pos := "ref.go:87", after := #[{ on := 2, ground := Ground.data }], guard := none } : Oper)) (v := ?va4) rfl (by kernel_rfl) (by kernel_rfl) (by kernel_rfl) (fun _ _ _ h => h) (Or.inl ⟨by rfl, fun w hSw => ?hya4⟩) (by assumption) ?ra4
  case hya4 => (try dsimp only at hSw); go_simp; (try with_reducible rfl)
  (try simp only [Act.put, List.setIfInBounds_toArray, List.set_cons_zero, List.set_cons_succ])
  refine wpAnyH_take (i := 5) (oi := ({ dst := some 32, op := Op.fieldAddr 76 (Operand.tmp 31) 0, type := 0, pos := "ref.go:87", after := #[{ on := 4, ground := Ground.data }], guard := none } : Oper)) (v := ?va5) rfl (by kernel_rfl) (by kernel_rfl) (by kernel_rfl) (fun _ _ _ h => h) (Or.inl ⟨by rfl, fun w hSw => ?hya5⟩) (by assumption) ?ra5
  case hya5 => (try dsimp only at hSw); go_simp; (try with_reducible rfl)
  (try simp only [Act.put, List.setIfInBounds_toArray, List.set_cons_zero, List.set_cons_succ])
  refine wpAnyH_take (i := 6) (oi := ({ dst := some 33, op := Op.indexAddr 72 (Operand.tmp 32) (Operand.tmp 30), type := 0, pos := "ref.go:87", after := #[{ on := 5, ground := Ground.data }, { on := 3, ground := Ground.data }], guard := none } : Oper)) (v := ?va6) rfl (by kernel_rfl) (by kernel_rfl) (by kernel_rfl) (fun _ _ _ h => h) (Or.inl ⟨by rfl, fun w hSw => ?hya6⟩) (by assumption) ?ra6
  case hya6 => (try dsimp only at hSw); go_simp; (try with_reducible rfl)
  (try simp only [Act.put, List.setIfInBounds_toArray, List.set_cons_zero, List.set_cons_succ])
  refine wpAnyH_take (i := 7) (oi := ({ dst := some 34, op := Op.load 71 (Operand.tmp 33), type := 71, pos := "ref.go:87", after := #[{ on := 6, ground := Ground.data }], guard := none } : Oper)) (v := ?va7) rfl (by kernel_rfl) (by kernel_rfl) (by kernel_rfl) (fun _ _ _ h => h) (Or.inl ⟨by rfl, fun w hSw => ?hya7⟩) (by assumption) ?ra7
  case hya7 => (try dsimp only at hSw); go_simp; (try with_reducible rfl)
  (try simp only [Act.put, List.setIfInBounds_toArray, List.set_cons_zero, List.set_cons_succ])
  refine wpAnyH_take (i := 8) (oi := ({ dst := some 35, op := Op.move (Operand.tmp 2), type := 3, pos := "ref.go:87", after := #[], guard := none } : Oper)) (v := ?va8) rfl (by kernel_rfl) (by kernel_rfl) (by kernel_rfl) (fun _ _ _ h => h) (Or.inl ⟨by rfl, fun w hSw => ?hya8⟩) (by assumption) ?ra8
  case hya8 => (try dsimp only at hSw); go_simp; (try with_reducible rfl)
  (try simp only [Act.put, List.setIfInBounds_toArray, List.set_cons_zero, List.set_cons_succ])
  refine wpAnyH_take (i := 10) (oi := ({ dst := some 37, op := Op.nilCheck (Operand.tmp 27), type := 0, pos := "ref.go:87", after := #[{ on := 0, ground := Ground.data }], guard := none } : Oper)) (v := ?va10) rfl (by kernel_rfl) (by kernel_rfl) (by kernel_rfl) (fun _ _ _ h => h) (Or.inl ⟨by rfl, fun w hSw => ?hya10⟩) (by assumption) ?ra10
  case hya10 => (try dsimp only at hSw); go_simp; (try with_reducible rfl)
  (try simp only [Act.put, List.setIfInBounds_toArray, List.set_cons_zero, List.set_cons_succ])
  refine wpAnyH_take (i := 11) (oi := ({ dst := some 38, op := Op.fieldAddr 76 (Operand.tmp 37) 0, type := 0, pos := "ref.go:87", after := #[{ on := 10, ground := Ground.data }], guard := none } : Oper)) (v := ?va11) rfl (by kernel_rfl) (by kernel_rfl) (by kernel_rfl) (fun _ _ _ h => h) (Or.inl ⟨by rfl, fun w hSw => ?hya11⟩) (by assumption) ?ra11
  case hya11 => (try dsimp only at hSw); go_simp; (try with_reducible rfl)
  (try simp only [Act.put, List.setIfInBounds_toArray, List.set_cons_zero, List.set_cons_succ])
  refine wpAnyH_ready (rs := [9]) (by kernel_rfl) (by simp) ?_
  refine AllReadyH.cons (o := ({ dst := some 36, op := Op.call { callee := Callee.value (Operand.func 27), args := #[Operand.tmp 34, Operand.tmp 35], argTypes := #[71, 3] }, type := 71, pos := "ref.go:87", after := #[{ on := 7, ground := Ground.data }, { on := 8, ground := Ground.data }], guard := none } : Oper)) rfl (fun Kq hKq => ?_) AllReadyH.nil
  go_simp
  (refine HRE.out.mono ?_; rintro e w1 ⟨s1, ss1, rfl, ht1, hb1⟩; obtain ⟨A1, c1, hse, hc1, hc19⟩ := ht1.shape; rw [reh_len] at hse hc1; subst hse; have HT1 := Lib.hid ht1; have HB1 := Lib.hid hb1; have HCV1 := Lib.hid (HCV.out.turn hb1 hrl); clear ht1)
  refine hKq.out _ _ ?_ (fun hHeld => ?_)
  · exact (hb1.cell (p := ⟨rb, fk, none⟩) hrl).trans hHeld
  clear hKq Kq
  (try simp only [Act.put, List.setIfInBounds_toArray, List.set_cons_zero, List.set_cons_succ])
  refine wpAnyH_take (i := 12) (oi := ({ dst := some 39, op := Op.indexAddr 72 (Operand.tmp 38) (Operand.tmp 28), type := 0, pos := "ref.go:87", after := #[{ on := 11, ground := Ground.data }, { on := 1, ground := Ground.data }, { on := 0, ground := Ground.phase }, { on := 1, ground := Ground.phase }, { on := 2, ground := Ground.phase }, { on := 3, ground := Ground.phase }, { on := 4, ground := Ground.phase }, { on := 5, ground := Ground.phase }, { on := 6, ground := Ground.phase }, { on := 7, ground := Ground.phase }, { on := 8, ground := Ground.phase }, { on := 9, ground := Ground.phase }], guard := none } : Oper)) (v := ?va12) rfl (by kernel_rfl) (by kernel_rfl) (by kernel_rfl) (fun _ _ _ h => h) (Or.inl ⟨by rfl, fun w hSw => ?hya12⟩) (by assumption) ?ra12
  case hya12 => (try dsimp only at hSw); go_simp; (try with_reducible rfl)
  (try simp only [Act.put, List.setIfInBounds_toArray, List.set_cons_zero, List.set_cons_succ])
  refine wpAnyH_ready (rs := [13]) (by kernel_rfl) (by simp) ?_
  refine AllReadyH.cons (o := ({ dst := none, op := Op.store 71 (Operand.tmp 39) (Operand.tmp 36), type := 0, pos := "ref.go:87", after := #[{ on := 12, ground := Ground.data }, { on := 9, ground := Ground.data }, { on := 9, ground := Ground.chain }, { on := 0, ground := Ground.phase }, { on := 1, ground := Ground.phase }, { on := 2, ground := Ground.phase }, { on := 3, ground := Ground.phase }, { on := 4, ground := Ground.phase }, { on := 5, ground := Ground.phase }, { on := 6, ground := Ground.phase }, { on := 7, ground := Ground.phase }, { on := 8, ground := Ground.phase }, { on := 9, ground := Ground.phase }], guard := none } : Oper)) rfl (fun Kq hKq => ?_) AllReadyH.nil
  have hrl1 : rb < w1.heap.size := Nat.lt_of_lt_of_le hrl hb1.size; obtain ⟨k1, f1⟩ := HCV1.out tk (by omega); clear hb1; go_simp
  refine hKq.out _ _ ?_ (fun hHeld => ?_)
  · exact (World.cell?_setCell_other _ _ _ _ (by simp <;> omega)).trans hHeld
  clear hKq Kq
  (try simp only [Act.put, List.setIfInBounds_toArray, List.set_cons_zero, List.set_cons_succ])
  refine wpAnyH_done (by kernel_rfl) ?_ _
  have CV2 := Lib.hid (HCV1.out.set (i := tk) (by omega) (.slice A1 N c1))
  have ta : Turns (fun x => x = rb) w1 (w1.setCell ⟨rb, tk, none⟩ (.slice A1 N c1)) := (Turns.refl (fun x => x = rb) w1).setCell ⟨rb, tk, none⟩ _ rfl
  have hrl2 : rb < (w1.setCell ⟨rb, tk, none⟩ (.slice A1 N c1)).heap.size := Nat.lt_of_lt_of_le hrl1 ta.size
  have hsa : (w1.setCell ⟨rb, tk, none⟩ (.slice A1 N c1)).heap.size = w1.heap.size := by simp [World.setCell]
  generalize w1.setCell ⟨rb, tk, none⟩ (.slice A1 N c1) = w2 at *
  have TA := Lib.hid ta; have HSA := Lib.hid hsa
  clear ta k1 f1 hc0 hsa
  go_upto_region 4 with (fail)
  refine wp_region_held_drew (S := fun _ => True) (by kernel_rfl) ?_ (fun hHeld => ?_)
  · trivial
  refine wpAnyH_take (i := 0) (oi := ({ dst := some 40, op := Op.move (Operand.tmp 0), type := 27, pos := "ref.go:88", after := #[], guard := none } : Oper)) (v := ?vb0) rfl (by kernel_rfl) (by kernel_rfl) (by kernel_rfl) (fun _ _ _ h => h) (Or.inl ⟨by rfl, fun w hSw => ?hyb0⟩) (by assumption) ?rb0
  case hyb0 => (try dsimp only at hSw); go_simp; (try with_reducible rfl)
  (try simp only [Act.put, List.setIfInBounds_toArray, List.set_cons_zero, List.set_cons_succ])
  refine wpAnyH_take (i := 1) (oi := ({ dst := some 41, op := Op.move (Operand.tmp 2), type := 3, pos := "ref.go:88", after := #[], guard := none } : Oper)) (v := ?vb1) rfl (by kernel_rfl) (by kernel_rfl) (by kernel_rfl) (fun _ _ _ h => h) (Or.inl ⟨by rfl, fun w hSw => ?hyb1⟩) (by assumption) ?rb1
  case hyb1 => (try dsimp only at hSw); go_simp; (try with_reducible rfl)
  (try simp only [Act.put, List.setIfInBounds_toArray, List.set_cons_zero, List.set_cons_succ])
  refine wpAnyH_take (i := 2) (oi := ({ dst := some 42, op := Op.move (Operand.tmp 2), type := 3, pos := "ref.go:88", after := #[], guard := none } : Oper)) (v := ?vb2) rfl (by kernel_rfl) (by kernel_rfl) (by kernel_rfl) (fun _ _ _ h => h) (Or.inl ⟨by rfl, fun w hSw => ?hyb2⟩) (by assumption) ?rb2
  case hyb2 => (try dsimp only at hSw); go_simp; (try with_reducible rfl)
  (try simp only [Act.put, List.setIfInBounds_toArray, List.set_cons_zero, List.set_cons_succ])
  refine wpAnyH_take (i := 3) (oi := ({ dst := some 43, op := Op.move (Operand.tmp 3), type := 22, pos := "ref.go:88", after := #[], guard := none } : Oper)) (v := ?vb3) rfl (by kernel_rfl) (by kernel_rfl) (by kernel_rfl) (fun _ _ _ h => h) (Or.inl ⟨by rfl, fun w hSw => ?hyb3⟩) (by assumption) ?rb3
  case hyb3 => (try dsimp only at hSw); go_simp; (try with_reducible rfl)
  (try simp only [Act.put, List.setIfInBounds_toArray, List.set_cons_zero, List.set_cons_succ])
  refine wpAnyH_take (i := 5) (oi := ({ dst := some 45, op := Op.nilCheck (Operand.tmp 40), type := 0, pos := "ref.go:88", after := #[{ on := 0, ground := Ground.data }], guard := none } : Oper)) (v := ?vb5) rfl (by kernel_rfl) (by kernel_rfl) (by kernel_rfl) (fun _ _ _ h => h) (Or.inl ⟨by rfl, fun w hSw => ?hyb5⟩) (by assumption) ?rb5
  case hyb5 => (try dsimp only at hSw); go_simp; (try with_reducible rfl)
  (try simp only [Act.put, List.setIfInBounds_toArray, List.set_cons_zero, List.set_cons_succ])
  refine wpAnyH_take (i := 6) (oi := ({ dst := some 46, op := Op.fieldAddr 76 (Operand.tmp 45) 1, type := 0, pos := "ref.go:88", after := #[{ on := 5, ground := Ground.data }], guard := none } : Oper)) (v := ?vb6) rfl (by kernel_rfl) (by kernel_rfl) (by kernel_rfl) (fun _ _ _ h => h) (Or.inl ⟨by rfl, fun w hSw => ?hyb6⟩) (by assumption) ?rb6
  case hyb6 => (try dsimp only at hSw); go_simp; (try with_reducible rfl)
  (try simp only [Act.put, List.setIfInBounds_toArray, List.set_cons_zero, List.set_cons_succ])
  refine wpAnyH_ready (rs := [4]) (by kernel_rfl) (by simp) ?_
  refine AllReadyH.cons (o := ({ dst := some 44, op := Op.call { callee := Callee.value (Operand.func 28), args := #[Operand.tmp 42, Operand.tmp 43], argTypes := #[3, 22] }, type := 73, pos := "ref.go:88", after := #[{ on := 2, ground := Ground.data }, { on := 3, ground := Ground.data }], guard := none } : Oper)) rfl (fun Kq hKq => ?_) AllReadyH.nil
  go_simp
  (refine (HBG.out _).mono ?_; rintro e w3 ⟨s2, rfl, hr2, hb3⟩; obtain ⟨A2, c2, rfl, hc2, hc29⟩ := hr2.shape; have HR2 := Lib.hid hr2; have HB3 := Lib.hid hb3; have HCV3 : Hid (CV w3 rb _) := Lib.hid (CV.turn (w := w2.drew) CV2.out hb3 hrl2); have hrl3 : rb < w3.heap.size := Nat.lt_of_lt_of_le hrl2 hb3.size; clear hr2 hb3)
  refine hKq.out _ _ ?_ (fun hHeld => ?_)
  · trivial
  clear hKq Kq
  (try simp only [Act.put, List.setIfInBounds_toArray, List.set_cons_zero, List.set_cons_succ])
  refine wpAnyH_take (i := 7) (oi := ({ dst := some 47, op := Op.indexAddr 74 (Operand.tmp 46) (Operand.tmp 41), type := 0, pos := "ref.go:88", after := #[{ on := 6, ground := Ground.data }, { on := 1, ground := Ground.data }, { on := 0, ground := Ground.phase }, { on := 1, ground := Ground.phase }, { on := 2, ground := Ground.phase }, { on := 3, ground := Ground.phase }, { on := 4, ground := Ground.phase }], guard := none } : Oper)) (v := ?vb7) rfl (by kernel_rfl) (by kernel_rfl) (by kernel_rfl) (fun _ _ _ h => h) (Or.inl ⟨by rfl, fun w hSw => ?hyb7⟩) (by assumption) ?rb7
  case hyb7 => (try dsimp only at hSw); go_simp; (try with_reducible rfl)
  (try simp only [Act.put, List.setIfInBounds_toArray, List.set_cons_zero, List.set_cons_succ])
  refine wpAnyH_ready (rs := [8]) (by kernel_rfl) (by simp) ?_
  refine AllReadyH.cons (o := ({ dst := none, op := Op.store 73 (Operand.tmp 47) (Operand.tmp 44), type := 0, pos := "ref.go:88", after := #[{ on := 7, ground := Ground.data }, { on := 4, ground := Ground.data }, { on := 4, ground := Ground.chain }, { on := 0, ground := Ground.phase }, { on := 1, ground := Ground.phase }, { on := 2, ground := Ground.phase }, { on := 3, ground := Ground.phase }, { on := 4, ground := Ground.phase }], guard := none } : Oper)) rfl (fun Kq hKq => ?_) AllReadyH.nil
  obtain ⟨k3, f3⟩ := HCV3.out (9 + tk) (by omega); go_simp
  refine hKq.out _ _ ?_ (fun hHeld => ?_)
  · trivial
  clear hKq Kq
  (try simp only [Act.put, List.setIfInBounds_toArray, List.set_cons_zero, List.set_cons_succ])
  refine wpAnyH_done (by kernel_rfl) ?_ _
  have CV4 := Lib.hid (HCV3.out.set (i := 9 + tk) (by omega) (.slice A2 N c2))
  have tb : Turns (fun x => x = rb) w3 (w3.setCell ⟨rb, 9 + tk, none⟩ (.slice A2 N c2)) := (Turns.refl (fun x => x = rb) w3).setCell ⟨rb, 9 + tk, none⟩ _ rfl
  have hrl4 : rb < (w3.setCell ⟨rb, 9 + tk, none⟩ (.slice A2 N c2)).heap.size := Nat.lt_of_lt_of_le hrl3 tb.size
  have hsb : (w3.setCell ⟨rb, 9 + tk, none⟩ (.slice A2 N c2)).heap.size = w3.heap.size := by simp [World.setCell]
  generalize w3.setCell ⟨rb, 9 + tk, none⟩ (.slice A2 N c2) = w4 at *
  have TB := Lib.hid tb; have HSB := Lib.hid hsb
  clear tb k3 f3 hsb
  go_upto_region 5 with (fail)
  refine wp_region_held_drew (S := fun _ => True) (by kernel_rfl) ?_ (fun hHeld => ?_)
  · trivial
  refine wpAnyH_take (i := 0) (oi := ({ dst := some 48, op := Op.move (Operand.tmp 0), type := 27, pos := "ref.go:89", after := #[], guard := none } : Oper)) (v := ?vc0) rfl (by kernel_rfl) (by kernel_rfl) (by kernel_rfl) (fun _ _ _ h => h) (Or.inl ⟨by rfl, fun w hSw => ?hyc0⟩) (by assumption) ?rc0
  case hyc0 => (try dsimp only at hSw); go_simp; (try with_reducible rfl)
  (try simp only [Act.put, List.setIfInBounds_toArray, List.set_cons_zero, List.set_cons_succ])
  refine wpAnyH_take (i := 1) (oi := ({ dst := some 49, op := Op.move (Operand.tmp 1), type := 3, pos := "ref.go:89", after := #[], guard := none } : Oper)) (v := ?vc1) rfl (by kernel_rfl) (by kernel_rfl) (by kernel_rfl) (fun _ _ _ h => h) (Or.inl ⟨by rfl, fun w hSw => ?hyc1⟩) (by assumption) ?rc1
  case hyc1 => (try dsimp only at hSw); go_simp; (try with_reducible rfl)
  (try simp only [Act.put, List.setIfInBounds_toArray, List.set_cons_zero, List.set_cons_succ])
  refine wpAnyH_take (i := 2) (oi := ({ dst := some 50, op := Op.move (Operand.tmp 1), type := 3, pos := "ref.go:89", after := #[], guard := none } : Oper)) (v := ?vc2) rfl (by kernel_rfl) (by kernel_rfl) (by kernel_rfl) (fun _ _ _ h => h) (Or.inl ⟨by rfl, fun w hSw => ?hyc2⟩) (by assumption) ?rc2
  case hyc2 => (try dsimp only at hSw); go_simp; (try with_reducible rfl)
  (try simp only [Act.put, List.setIfInBounds_toArray, List.set_cons_zero, List.set_cons_succ])
  refine wpAnyH_take (i := 4) (oi := ({ dst := some 52, op := Op.nilCheck (Operand.tmp 48), type := 0, pos := "ref.go:89", after := #[{ on := 0, ground := Ground.data }], guard := none } : Oper)) (v := ?vc4) rfl (by kernel_rfl) (by kernel_rfl) (by kernel_rfl) (fun _ _ _ h => h) (Or.inl ⟨by rfl, fun w hSw => ?hyc4⟩) (by assumption) ?rc4
  case hyc4 => (try dsimp only at hSw); go_simp; (try with_reducible rfl)
  (try simp only [Act.put, List.setIfInBounds_toArray, List.set_cons_zero, List.set_cons_succ])
  refine wpAnyH_take (i := 5) (oi := ({ dst := some 53, op := Op.fieldAddr 76 (Operand.tmp 52) 0, type := 0, pos := "ref.go:89", after := #[{ on := 4, ground := Ground.data }], guard := none } : Oper)) (v := ?vc5) rfl (by kernel_rfl) (by kernel_rfl) (by kernel_rfl) (fun _ _ _ h => h) (Or.inl ⟨by rfl, fun w hSw => ?hyc5⟩) (by assumption) ?rc5
  case hyc5 => (try dsimp only at hSw); go_simp; (try with_reducible rfl)
  (try simp only [Act.put, List.setIfInBounds_toArray, List.set_cons_zero, List.set_cons_succ])
  refine wpAnyH_ready (rs := [3]) (by kernel_rfl) (by simp) ?_
  refine AllReadyH.cons (o := ({ dst := some 51, op := Op.call { callee := Callee.value (Operand.func 27), args := #[Operand.const (Value.slice none 0 0), Operand.tmp 50], argTypes := #[71, 3] }, type := 71, pos := "ref.go:89", after := #[{ on := 2, ground := Ground.data }], guard := none } : Oper)) rfl (fun Kq hKq => ?_) AllReadyH.nil
  go_simp
  (refine (HRN.out _).mono ?_; rintro e w5 ⟨s3, ss3, rfl, ht3, hb5⟩; obtain ⟨A3, c3, hse, hc3, hc39⟩ := ht3.shape; rw [List.length_replicate] at hse hc3; subst hse; have HT3 := Lib.hid ht3; have HB5 := Lib.hid hb5; have HCV5 : Hid (CV w5 rb _) := Lib.hid (CV.turn (w := w4.drew) CV4.out hb5 hrl4); clear ht3 hb5)
  refine hKq.out _ _ ?_ (fun hHeld => ?_)
  · trivial
  clear hKq Kq
  (try simp only [Act.put, List.setIfInBounds_toArray, List.set_cons_zero, List.set_cons_succ])
  refine wpAnyH_take (i := 6) (oi := ({ dst := some 54, op := Op.indexAddr 72 (Operand.tmp 53) (Operand.tmp 49), type := 0, pos := "ref.go:89", after := #[{ on := 5, ground := Ground.data }, { on := 1, ground := Ground.data }, { on := 0, ground := Ground.phase }, { on := 1, ground := Ground.phase }, { on := 2, ground := Ground.phase }, { on := 3, ground := Ground.phase }], guard := none } : Oper)) (v := ?vc6) rfl (by kernel_rfl) (by kernel_rfl) (by kernel_rfl) (fun _ _ _ h => h) (Or.inl ⟨by rfl, fun w hSw => ?hyc6⟩) (by assumption) ?rc6
  case hyc6 => (try dsimp only at hSw); go_simp; (try with_reducible rfl)
  (try simp only [Act.put, List.setIfInBounds_toArray, List.set_cons_zero, List.set_cons_succ])
  refine wpAnyH_ready (rs := [7]) (by kernel_rfl) (by simp) ?_
  refine AllReadyH.cons (o := ({ dst := none, op := Op.store 71 (Operand.tmp 54) (Operand.tmp 51), type := 0, pos := "ref.go:89", after := #[{ on := 6, ground := Ground.data }, { on := 3, ground := Ground.data }, { on := 3, ground := Ground.chain }, { on := 0, ground := Ground.phase }, { on := 1, ground := Ground.phase }, { on := 2, ground := Ground.phase }, { on := 3, ground := Ground.phase }], guard := none } : Oper)) rfl (fun Kq hKq => ?_) AllReadyH.nil
  obtain ⟨k5, f5⟩ := HCV5.out fk (by omega); go_simp
  refine hKq.out _ _ ?_ (fun hHeld => ?_)
  · trivial
  clear hKq Kq
  (try simp only [Act.put, List.setIfInBounds_toArray, List.set_cons_zero, List.set_cons_succ])
  refine wpAnyH_done (by kernel_rfl) ?_ _
  have CV6 := Lib.hid (HCV5.out.set (i := fk) (by omega) (.slice A3 Nf c3))
  have tc : Turns (fun x => x = rb) w5 (w5.setCell ⟨rb, fk, none⟩ (.slice A3 Nf c3)) := (Turns.refl (fun x => x = rb) w5).setCell ⟨rb, fk, none⟩ _ rfl
  have hsc : (w5.setCell ⟨rb, fk, none⟩ (.slice A3 Nf c3)).heap.size = w5.heap.size := by simp [World.setCell]
  generalize w5.setCell ⟨rb, fk, none⟩ (.slice A3 Nf c3) = w6 at *
  have TC := Lib.hid tc; have HSC := Lib.hid hsc
  clear tc k5 f5 hsc
  go_wp2_with fail
  go_ret
  refine ⟨rfl, ?_⟩
  have H := HH.out
  have hl := HL.out
  have htab := HT1.out
  have htab3 := HT3.out
  have hd4 : w4.drew.heap.size = w4.heap.size := rfl
  have s1 : w.heap.size ≤ w1.heap.size := HB1.out.size
  have s2 : w2.heap.size = w1.heap.size := HSA.out
  have s3 : w2.heap.size ≤ w3.heap.size := HB3.out.size
  have s4 : w4.heap.size = w3.heap.size := HSB.out
  have s5 : w4.heap.size ≤ w5.heap.size := HB5.out.size
  have s6 : w6.heap.size = w5.heap.size := HSC.out
  have t56 := TC.out
  have t46 : Turns (fun x => x = rb) w4 w6 := ((Turns.refl (fun x => x = rb) w4).drew.trans (Turns.of_below (S := fun x => x = rb) HB5.out) (fun _ _ e => e)).trans t56 (fun _ _ e => e)
  have t36 := TB.out.trans t46 (fun _ _ e => e)
  have t26 : Turns (fun x => x = rb) w2 w6 := ((Turns.refl (fun x => x = rb) w2).drew.trans (Turns.of_below (S := fun x => x = rb) HB3.out) (fun _ _ e => e)).trans t36 (fun _ _ e => e)
  have t16 := TA.out.trans t26 (fun _ _ e => e)
  have t06 : Turns (fun x => x = rb) w w6 := ((Turns.refl (fun x => x = rb) w).drew.trans (Turns.of_below (S := fun x => x = rb) HB1.out) (fun _ _ e => e)).trans t16 (fun _ _ e => e)
  have l1 : ∀ x r, NewT (.slice A1 N c1) ss1 (tk : Int) x r → w.heap.size ≤ x ∧ x < w1.heap.size := fun x r e => NewT.lt htab e
  have l2 : ∀ x, (Value.slice A2 N c2).ownBlock = some x → w2.heap.size ≤ x ∧ x < w3.heap.size := fun x e => HR2.out.lt x e
  have l3 : ∀ x r, NewT (.slice A3 Nf c3) ss3 (fk : Int) x r → w4.heap.size ≤ x ∧ x < w5.heap.size := fun x r e => NewT.lt htab3 e
  obtain ⟨own', o1, o2, o3⟩ := own_new own (fun x r => NewT (.slice A1 N c1) ss1 (tk : Int) x r ∨ ((Value.slice A2 N c2).ownBlock = some x ∧ r = .tim (tk : Int)) ∨ NewT (.slice A3 Nf c3) ss3 (fk : Int) x r) (fun x => own x = some (.tab (fk : Int)) ∨ ∃ i, own x = some (.q (fk : Int) i)) w.heap.size (fun x r r' e e' => by
    rcases e with h1 | ⟨h1, rfl⟩ | h1
    · rcases e' with h2 | ⟨h2, rfl⟩ | h2
      · exact NewT.fun htab h1 h2
      · have := l1 x _ h1; have := l2 x h2; omega
      · have := l1 x _ h1; have := l3 x _ h2; omega
    · rcases e' with h2 | ⟨h2, rfl⟩ | h2
      · have := l1 x _ h2; have := l2 x h1; omega
      · rfl
      · have := l3 x _ h2; have := l2 x h1; omega
    · rcases e' with h2 | ⟨h2, rfl⟩ | h2
      · have := l1 x _ h2; have := l3 x _ h1; omega
      · have := l2 x h2; have := l3 x _ h1; omega
      · exact NewT.fun htab3 h1 h2) (fun x r e => by
    rcases e with h1 | ⟨h1, rfl⟩ | h1
    · exact (l1 x _ h1).1
    · have := l2 x h1; omega
    · have := l3 x _ h1; omega) (fun x r e => (H.fp x r e).2)
  have hkeep : ∀ x r, own x = some r → r ≠ .tab (fk : Int) → (∀ i, r ≠ .q (fk : Int) i) → own' x = some r := fun x r e hr hr2 => o2 x r e (fun hd => by
    rcases hd with hd | ⟨i, hd⟩
    · exact hr (by rw [e] at hd; simpa using hd)
    · exact hr2 i (by rw [e] at hd; simpa using hd))
  have hMt : grown M h N (fk : Int) (tk : Int) now (tk : Int) = fresh now (reh h N E) := by unfold grown; rw [upd_same, hE]
  have hMf : grown M h N (fk : Int) (tk : Int) now (fk : Int) = hollow (M (fk : Int)) := by unfold grown; rw [upd_ne _ _ (by omega), upd_same]
  have hMo : ∀ b : Int, b ≠ tk → b ≠ fk → grown M h N (fk : Int) (tk : Int) now b = M b := fun b e1 e2 => by unfold grown; rw [upd_ne _ _ e1, upd_ne _ _ e2]
  refine ⟨own', ⟨rb, upd (upd Q tk (.slice A1 N c1)) fk (.slice A3 Nf c3), upd T tk (.slice A2 N c2), upd (upd V tk (fun i => (ss1[i]?).getD nilS)) fk (fun i => (ss3[i]?).getD nilS), ?_⟩, t06.mono (fun x _ e => by subst e; exact ⟨_, H.os⟩), fun x r e => by
    rcases o3 x r e with h' | h1 | ⟨h1, rfl⟩ | h1
    · exact .inl ⟨r, h'⟩
    · exact .inr (l1 x _ h1).1
    · have := l2 x h1; exact .inr (by omega)
    · have := l3 x _ h1; exact .inr (by omega)⟩
  have hbase := (H.fp rb _ H.os).1
  refine ⟨fun x r e => ?_, rfl, hkeep rb _ H.os (by simp) (by simp), fun j hj => ?_, fun j hj => ?_, fun b hb => ?_, fun j hj => ?_, fun j hj => ?_, fun j i hi => ?_, fun j x hj e => ?_, fun j x hj e => ?_, fun j i x hi e => ?_⟩
  · rcases o3 x r e with h' | h1 | ⟨h1, rfl⟩ | h1
    · have := H.fp x r h'; omega
    · have := l1 x _ h1; omega
    · have := l2 x h1; omega
    · have := l3 x _ h1; omega
  · refine ⟨(CV6.out j (by omega)).1.trans (congrArg some ?_), (CV6.out j (by omega)).2⟩
    by_cases e1 : j = fk
    · subst e1; rw [upd_same, upd_same]
    · rw [upd_ne _ _ e1, upd_ne _ _ e1, upd_ne _ _ (by omega)]
      by_cases e2 : j = tk
      · subst e2; rw [upd_same, upd_same]
      · rw [upd_ne _ _ e2, upd_ne _ _ e2, if_pos hj]
  · refine ⟨(CV6.out (9 + j) (by omega)).1.trans (congrArg some ?_), (CV6.out (9 + j) (by omega)).2⟩
    rw [upd_ne _ _ (show 9 + j ≠ fk by omega)]
    by_cases e2 : j = tk
    · subst e2; rw [upd_same, upd_same]
    · rw [upd_ne _ _ (show 9 + j ≠ 9 + tk by omega), upd_ne _ _ (show 9 + j ≠ tk by omega), upd_ne _ _ e2, if_neg (by omega), show 9 + j - 9 = j by omega]
  · rw [hMo b (by omega) (by omega)]
    exact H.no b hb
  · by_cases e1 : j = fk
    · subst e1
      rw [upd_same, upd_same, hMf, hollow_len, hl]
      have := tab_qflat htab3
      rw [List.length_replicate] at this
      exact (this.keep t56 (fun x e e2 => by have := htab3.row.lt x e; omega)).base (Nat.zero_le _)
    · rw [upd_ne _ _ e1, upd_ne _ _ e1]
      by_cases e2 : j = tk
      · subst e2
        rw [upd_same, upd_same, hMt, fresh_len, reh_len]
        have := tab_qflat htab
        rw [reh_len] at this
        exact (this.keep t16 (fun x e e2 => by have := htab.row.lt x e; omega)).base (Nat.zero_le _)
      · rw [upd_ne _ _ e2, upd_ne _ _ e2, hMo _ (by omega) (by omega)]
        exact (H.hq j hj).keep t06 (fun x e e3 => H.ne (H.oq j x hj e) H.os (by simp) e3)
  · by_cases e2 : j = tk
    · subst e2
      rw [upd_same, hMt, fresh_len, tflat_fresh, reh_len]
      exact (HR2.out.keep t36 (fun x e e2 => by have := l2 x e; omega)).base (Nat.zero_le _)
    · rw [upd_ne _ _ e2]
      by_cases e1 : j = fk
      · subst e1
        rw [hMf, hollow_len, tflat_hollow]
        exact (H.ht j hj).keep t06 (fun x e e3 => H.ne (H.ot j x hj e) H.os (by simp) e3)
      · rw [hMo _ (by omega) (by omega)]
        exact (H.ht j hj).keep t06 (fun x e e3 => H.ne (H.ot j x hj e) H.os (by simp) e3)
  · by_cases e1 : j = fk
    · subst e1
      rw [hMf, hollow_len] at hi
      rw [upd_same, hMf, hollow_at _ hi]
      obtain ⟨v, hv, hr, _⟩ := htab3.qs i (by rw [List.length_replicate]; omega)
      rw [rep_at] at hr
      rw [hv]
      exact (hr.keep t56 (fun x e e2 => by have := htab3.lt hv e; omega)).base (Nat.zero_le _)
    · rw [upd_ne _ _ e1]
      by_cases e2 : j = tk
      · subst e2
        rw [hMt, fresh_len] at hi
        rw [upd_same, hMt, fresh_at _ _ hi]
        obtain ⟨v, hv, hr, _⟩ := htab.qs i hi
        rw [hv]
        exact (hr.keep t16 (fun x e e2 => by have := htab.lt hv e; omega)).base (Nat.zero_le _)
      · rw [hMo _ (by omega) (by omega)] at hi ⊢
        rw [upd_ne _ _ e2]
        exact (H.hv j i hi).keep t06 (fun x e e3 => H.ne (H.ov j i x hi e) H.os (by simp) e3)
  · by_cases e1 : j = fk
    · subst e1
      rw [upd_same] at e
      exact o1 _ _ (.inr (.inr (.inl ⟨e, rfl⟩)))
    · rw [upd_ne _ _ e1] at e
      by_cases e2 : j = tk
      · subst e2
        rw [upd_same] at e
        exact o1 _ _ (.inl (.inl ⟨e, rfl⟩))
      · rw [upd_ne _ _ e2] at e
        exact hkeep x _ (H.oq j x hj e) (by simp; omega) (by simp)
  · by_cases e2 : j = tk
    · subst e2
      rw [upd_same] at e
      exact o1 _ _ (.inr (.inl ⟨e, rfl⟩))
    · rw [upd_ne _ _ e2] at e
      exact hkeep x _ (H.ot j x hj e) (by simp) (by simp)
  · by_cases e1 : j = fk
    · subst e1
      rw [hMf, hollow_len] at hi
      rw [upd_same] at e
      obtain ⟨v, hv, hr, _⟩ := htab3.qs i (by rw [List.length_replicate]; omega)
      rw [hv] at e
      exact o1 _ _ (.inr (.inr (.inr ⟨i, v, hv, e, rfl⟩)))
    · rw [upd_ne _ _ e1] at e
      by_cases e2 : j = tk
      · subst e2
        rw [hMt, fresh_len] at hi
        rw [upd_same] at e
        obtain ⟨v, hv, hr, _⟩ := htab.qs i hi
        rw [hv] at e
        exact o1 _ _ (.inl (.inr ⟨i, v, hv, e, rfl⟩))
      · rw [hMo _ (by omega) (by omega)] at hi
        rw [upd_ne _ _ e2] at e
        exact hkeep x _ (H.ov j i x hi e) (by simp) (by simp; omega)
end
end Go.Proofs.Ytcdoklgjicfkmaa
