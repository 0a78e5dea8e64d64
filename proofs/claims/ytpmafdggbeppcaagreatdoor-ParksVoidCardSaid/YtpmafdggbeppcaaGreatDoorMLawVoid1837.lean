/- Texts of this seat, one behind the other. -/
import Derived.Test.YtpmafdggbeppcaaGreatDoorMLawVoid184
import Derived.Test.YtpmafdggbeppcaaGreatDoorMLawVoid1836
set_option linter.unusedVariables false
set_option linter.unusedSimpArgs false
namespace Go.Proofs.YtpmafdggbeppcaaGreatDoor.S10
set_option maxRecDepth 100000
set_option maxHeartbeats 16000000
open Go.Proofs.YtpmafdggbeppcaaGreatDoor
open Go.RowKit
section
variable {w : World} {base : Nat} {own : Nat → Option Role} {s : Value} {M : Int → List Bk}
theorem rgrow_no (h : Rt w base own s M) {fr tg : Int} (now : Int) (hno : M fr = [] ∨ tg ≤ fr ∨ 8 < tg ∨ M tg ≠ []) :
    Calls Tryz.prog 37 #[s, .int .i64 fr, .int .i64 tg, .int .u64 now] w fun e w' => e = .returned (.bool false) ∧ w = w' := by
  have HF := rhas_any h fr
  have HT := rhas_any h tg
  by_cases e0 : M fr = []
  · rw [e0] at HF
    have hf0 : decide (0 < ([] : List Bk).length) = false := by decide
    rw [hf0] at HF
    have HF := Lib.hid HF
    clear h HT
    go_enter Tryz.func37, Tryz.ntmps37
    go_wp2_with (go_at_call 50; refine HF.out.mono ?_; rintro e w' ⟨rfl, rfl⟩)
    go_ret
    exact ⟨rfl, rfl⟩
  · have hf1 : decide (0 < (M fr).length) = true := by simpa using List.length_pos_iff.2 e0
    rw [hf1] at HF
    have HF := Lib.hid HF
    by_cases e1 : tg ≤ fr
    · have d1 : decide (tg ≤ fr) = true := by simpa using e1
      clear h HT
      go_enter Tryz.func37, Tryz.ntmps37
      go_wp2_with (go_at_call 50; refine HF.out.mono ?_; rintro e w' ⟨rfl, rfl⟩)
      go_ret
      exact ⟨rfl, rfl⟩
    · have d1 : decide (tg ≤ fr) = false := by simpa using e1
      by_cases e2 : 8 < tg
      · have d2 : decide (8 < tg) = true := by simpa using e2
        clear h HT
        go_enter Tryz.func37, Tryz.ntmps37
        go_wp2_with (go_at_call 50; refine HF.out.mono ?_; rintro e w' ⟨rfl, rfl⟩)
        go_ret
        exact ⟨rfl, rfl⟩
      · have d2 : decide (8 < tg) = false := by simpa using e2
        have e3 : M tg ≠ [] := by
          rcases hno with h | h | h | h
          · exact absurd h e0
          · exact absurd h e1
          · exact absurd h e2
          · exact h
        have hf2 : decide (0 < (M tg).length) = true := by simpa using List.length_pos_iff.2 e3
        rw [hf2] at HT
        have HT := Lib.hid HT
        clear h
        go_enter Tryz.func37, Tryz.ntmps37
        go_wp2_with (first
          | (go_at_call 50; ((with_reducible refine HF.out.mono ?_)); rintro e w' ⟨rfl, rfl⟩)
          | (go_at_call 50; ((with_reducible refine HT.out.mono ?_)); rintro e w' ⟨rfl, rfl⟩))
        go_ret
        exact ⟨rfl, rfl⟩
def CV (w : World) (rb : Nat) (f : Nat → Value) : Prop := ∀ j, j < 18 → w.cell? ⟨rb, j, none⟩ = some (f j) ∧ w.frozen? ⟨rb, j, none⟩ = false
theorem CV.turn {w w' : World} {rb : Nat} {f : Nat → Value} (h : CV w rb f) (hb : Below w.heap.size w w') (hl : rb < w.heap.size) : CV w' rb f := fun j hj =>
  ⟨(hb.cell (p := ⟨rb, j, none⟩) hl).trans (h j hj).1, (hb.frozen (p := ⟨rb, j, none⟩) hl).trans (h j hj).2⟩
theorem CV.set {w : World} {rb : Nat} {f : Nat → Value} (h : CV w rb f) {i : Nat} (hi : i < 18) (v : Value) : CV (w.setCell ⟨rb, i, none⟩ v) rb (upd f i v) := fun j hj => by
  refine ⟨?_, (World.frozen?_setCell _ _ _ _).trans (h j hj).2⟩
  by_cases e : j = i
  · subst e
    rw [upd_same]
    exact World.cell?_setCell_same _ _ _ (h j hj).1
  · rw [upd_ne _ _ e]
    exact (World.cell?_setCell_other _ _ _ _ (by simp <;> omega)).trans (h j hj).1
theorem rgrow_yes (hst : Rt w base own s M) {fr tg : Int} (now : Int) (h0 : M fr ≠ []) (h1 : fr < tg) (h2 : tg ≤ 8) (h3 : M tg = []) {N Nf : Nat} {h hf : Nat → Nat} (K : Kit tg N h) (Kf : Kit fr Nf hf)
    (hl : (M fr).length = Nf) (hkeys : Keys ((M fr).map Bk.q).flatten) (hfew : ((M fr).map Bk.q).flatten.length ≤ 100000) :
    Calls Tryz.prog 37 #[s, .int .i64 fr, .int .i64 tg, .int .u64 now] w fun e w' => e = .returned (.bool true) ∧ ∃ own', Rt w' base own' s (grown M h N fr tg now) ∧ Turns (Mine own) w w' ∧ Fresh own own' w := by
  obtain ⟨rb, Q, T, V, H⟩ := hst
  obtain rfl := H.hs
  have HFR := rhas_any ⟨rb, Q, T, V, H⟩ fr
  have HTO := rhas_any ⟨rb, Q, T, V, H⟩ tg
  have hpos : 0 < (M fr).length := List.length_pos_iff.2 h0
  have hd0 : decide (0 < (M fr).length) = true := by simpa using hpos
  have hd1 : decide (0 < (M tg).length) = false := by rw [h3]; decide
  rw [hd0] at HFR
  rw [hd1] at HTO
  have HFR := Lib.hid HFR; have HTO := Lib.hid HTO
  have d1 : decide (tg ≤ fr) = false := by simpa using h1
  have d2 : decide (8 < tg) = false := by simpa using h2
  obtain ⟨fk, rfl, hf2, hf9⟩ := H.nat h0
  obtain ⟨tk, rfl⟩ := Int.eq_ofNat_of_zero_le (show 0 ≤ tg by omega)
  have hft : fk < tk := by omega
  have ht9 : tk < 9 := by omega
  have hf9i : (fk : Int) < 9 := by omega
  have ht9i : (tk : Int) < 9 := by omega
  obtain ⟨E, hE⟩ : ∃ E, E = ((M (fk : Int)).map Bk.q).flatten := ⟨_, rfl⟩
  have hrl := (H.fp rb _ H.os).2
  have hNf := Kf.few
  have hNN := K.few
  have hcv : CV w.drew rb (fun j => if j < 9 then Q j else T (j - 9)) := fun j hj => by
    dsimp only
    by_cases hj9 : j < 9
    · rw [if_pos hj9]; exact H.hQ j hj9
    · rw [if_neg hj9]
      have := H.hT (j - 9) (by omega)
      rw [show 9 + (j - 9) = j by omega] at this
      exact this
  obtain ⟨Aq, cq, eq, hcq, hcq9⟩ := (H.hq fk hf9).shape
  have hc0 : w.drew.cell? ⟨rb, fk, none⟩ = some (.slice Aq Nf cq) := by
    have := (H.hQ fk hf9).1
    rw [eq, hl] at this
    exact this
  have HRE : Hid (Calls Tryz.prog 83 #[.slice Aq Nf cq, .int .i64 (tk : Int)] w.drew fun e w' => ∃ s ss, e = .returned s ∧ Tab w' w.heap.size s ss (reh h N E) ∧ Below w.heap.size w.drew w') := by
    have hq : Qs w.drew w.heap.size Aq ((M (fk : Int)).map Bk.q) := by
      have hr := H.hq fk hf9
      rw [eq] at hr
      refine ⟨qflat (M (fk : Int)).length (V fk), by simp [qflat_len], hr.rd, fun i hi => ?_⟩
      rw [List.length_map] at hi
      have hqi := H.hv fk i hi
      obtain ⟨A', c', e, k1, k2⟩ := hqi.shape
      rw [map_at _ hi]
      refine ⟨A', c', by rw [qflat_at _ hi]; exact congrArg some e, k1, k2, ?_⟩
      rw [e] at hqi
      exact hqi.rd
    have := rrehash_any (c := cq) h K.rsize K.rhash K.few hq (Nat.le_refl _) (by rw [List.length_map]; exact hcq) hcq9 hkeys (by rw [List.length_map]; omega) hfew
    rw [List.length_map, hl, ← hE] at this
    exact Lib.hid this
  have HBG := Lib.hid (fun W => rbegins_any (w := W) K.rsize K.few now)
  have HRN := Lib.hid (fun W => rehash_nil (w := W) Kf)
  have HH := Lib.hid H; have HCV := Lib.hid hcv; have HL := Lib.hid hl
  clear H hcv eq hl hcq hcq9 hd0 hd1
  go_enter Tryz.func37, Tryz.ntmps37
  go_upto_region 3 with (first
    | (go_at_call 50; ((with_reducible refine HFR.out.mono ?_)); rintro e w' ⟨rfl, rfl⟩)
    | (go_at_call 50; ((with_reducible refine HTO.out.mono ?_)); rintro e w' ⟨rfl, rfl⟩))
  refine wp_region_held_drew (S := fun w' => w'.cell? ⟨rb, fk, none⟩ = some (.slice Aq Nf cq)) (by kernel_rfl) ?_ (fun hHeld => ?_)
  · exact hc0
  refine tA 0 ⟨some 27, .move (.tmp 0), 79, "ref.go:87", #[], none⟩ ?va0 ?ra0
  (try simp only [Act.put, tC, tD, tE])
  refine tA 1 ⟨some 28, .move (.tmp 2), 3, "ref.go:87", #[], none⟩ ?va1 ?ra1
  (try simp only [Act.put, tC, tD, tE])
  refine tA 2 ⟨some 29, .move (.tmp 0), 79, "ref.go:87", #[], none⟩ ?va2 ?ra2
  (try simp only [Act.put, tC, tD, tE])
  refine tA 3 ⟨some 30, .move (.tmp 1), 3, "ref.go:87", #[], none⟩ ?va3 ?ra3
  (try simp only [Act.put, tC, tD, tE])
  refine tA 4 ⟨some 31, .nilCheck (.tmp 29), 0, "ref.go:87", #[⟨2, .data⟩], none⟩ ?va4 ?ra4
  (try simp only [Act.put, tC, tD, tE])
  refine tA 5 ⟨some 32, .fieldAddr 145 (.tmp 31) 0, 0, "ref.go:87", #[⟨4, .data⟩], none⟩ ?va5 ?ra5
  (try simp only [Act.put, tC, tD, tE])
  refine tA 6 ⟨some 33, .indexAddr 142 (.tmp 32) (.tmp 30), 0, "ref.go:87", #[⟨5, .data⟩, ⟨3, .data⟩], none⟩ ?va6 ?ra6
  (try simp only [Act.put, tC, tD, tE])
  refine tA 7 ⟨some 34, .load 141 (.tmp 33), 141, "ref.go:87", #[⟨6, .data⟩], none⟩ ?va7 ?ra7
  (try simp only [Act.put, tC, tD, tE])
  refine tA 8 ⟨some 35, .move (.tmp 2), 3, "ref.go:87", #[], none⟩ ?va8 ?ra8
  (try simp only [Act.put, tC, tD, tE])
  refine tA 10 ⟨some 37, .nilCheck (.tmp 27), 0, "ref.go:87", #[⟨0, .data⟩], none⟩ ?va10 ?ra10
  (try simp only [Act.put, tC, tD, tE])
  refine tA 11 ⟨some 38, .fieldAddr 145 (.tmp 37) 0, 0, "ref.go:87", #[⟨10, .data⟩], none⟩ ?va11 ?ra11
  (try simp only [Act.put, tC, tD, tE])
  refine wpAnyH_ready (rs := [9]) (by kernel_rfl) (by simp) ?_
  refine AllReadyH.cons (o := ⟨some 36, .call ⟨.value (.func 83), #[.tmp 34, .tmp 35], #[141, 3]⟩, 141, "ref.go:87", #[⟨7, .data⟩, ⟨8, .data⟩], none⟩) rfl (fun Kq hKq => ?_) AllReadyH.nil
  go_simp
  (refine HRE.out.mono ?_; rintro e w1 ⟨s1, ss1, rfl, ht1, hb1⟩; obtain ⟨A1, c1, hse, hc1, hc19⟩ := ht1.shape; rw [reh_len] at hse hc1; subst hse; have HT1 := Lib.hid ht1; have HB1 := Lib.hid hb1; have HCV1 := Lib.hid (HCV.out.turn hb1 hrl); clear ht1)
  refine hKq.out _ _ ?_ (fun hHeld => ?_)
  · exact (hb1.cell (p := ⟨rb, fk, none⟩) hrl).trans hHeld
  clear hKq Kq
  (try simp only [Act.put, tC, tD, tE])
  refine tA 12 ⟨some 39, .indexAddr 142 (.tmp 38) (.tmp 28), 0, "ref.go:87", #[⟨11, .data⟩, ⟨1, .data⟩, ⟨0, .phase⟩, ⟨1, .phase⟩, ⟨2, .phase⟩, ⟨3, .phase⟩, ⟨4, .phase⟩, ⟨5, .phase⟩, ⟨6, .phase⟩, ⟨7, .phase⟩, ⟨8, .phase⟩, ⟨9, .phase⟩], none⟩ ?va12 ?ra12
  (try simp only [Act.put, tC, tD, tE])
  refine wpAnyH_ready (rs := [13]) (by kernel_rfl) (by simp) ?_
  refine AllReadyH.cons (o := ⟨none, .store 141 (.tmp 39) (.tmp 36), 0, "ref.go:87", #[⟨12, .data⟩, ⟨9, .data⟩, ⟨9, .chain⟩, ⟨0, .phase⟩, ⟨1, .phase⟩, ⟨2, .phase⟩, ⟨3, .phase⟩, ⟨4, .phase⟩, ⟨5, .phase⟩, ⟨6, .phase⟩, ⟨7, .phase⟩, ⟨8, .phase⟩, ⟨9, .phase⟩], none⟩) rfl (fun Kq hKq => ?_) AllReadyH.nil
  have hrl1 : rb < w1.heap.size := Nat.lt_of_lt_of_le hrl hb1.size; obtain ⟨k1, f1⟩ := HCV1.out tk (by omega); clear hb1; go_simp
  refine hKq.out _ _ ?_ (fun hHeld => ?_)
  · exact (World.cell?_setCell_other _ _ _ _ (by simp <;> omega)).trans hHeld
  clear hKq Kq
  (try simp only [Act.put, tC, tD, tE])
  refine wpAnyH_done (by kernel_rfl) ?_ _
  have CV2 := Lib.hid (HCV1.out.set (i := tk) (by omega) (.slice A1 N c1))
  have ta : Turns (fun x => x = rb) w1 (w1.setCell ⟨rb, tk, none⟩ (.slice A1 N c1)) := (Turns.refl (fun x => x = rb) w1).setCell ⟨rb, tk, none⟩ _ rfl
  have hrl2 : rb < (w1.setCell ⟨rb, tk, none⟩ (.slice A1 N c1)).heap.size := Nat.lt_of_lt_of_le hrl1 ta.size
  have hsa : (w1.setCell ⟨rb, tk, none⟩ (.slice A1 N c1)).heap.size = w1.heap.size := by simp [World.setCell]
  generalize w1.setCell ⟨rb, tk, none⟩ (.slice A1 N c1) = w2 at *
  have TA := Lib.hid ta; have HSA := Lib.hid hsa
  clear ta k1 f1 hc0 hsa
  go_upto_region 4 with (fail)
  refine wp_region_held_drew (S := fun _ => True) (by kernel_rfl) ?_ (fun hHeld => ?_)
  · trivial
  refine tA 0 ⟨some 40, .move (.tmp 0), 79, "ref.go:88", #[], none⟩ ?vb0 ?rb0
  (try simp only [Act.put, tC, tD, tE])
  refine tA 1 ⟨some 41, .move (.tmp 2), 3, "ref.go:88", #[], none⟩ ?vb1 ?rb1
  (try simp only [Act.put, tC, tD, tE])
  refine tA 2 ⟨some 42, .move (.tmp 2), 3, "ref.go:88", #[], none⟩ ?vb2 ?rb2
  (try simp only [Act.put, tC, tD, tE])
  refine tA 3 ⟨some 43, .move (.tmp 3), 29, "ref.go:88", #[], none⟩ ?vb3 ?rb3
  (try simp only [Act.put, tC, tD, tE])
  refine tA 5 ⟨some 45, .nilCheck (.tmp 40), 0, "ref.go:88", #[⟨0, .data⟩], none⟩ ?vb5 ?rb5
  (try simp only [Act.put, tC, tD, tE])
  refine tA 6 ⟨some 46, .fieldAddr 145 (.tmp 45) 1, 0, "ref.go:88", #[⟨5, .data⟩], none⟩ ?vb6 ?rb6
  (try simp only [Act.put, tC, tD, tE])
  refine wpAnyH_ready (rs := [4]) (by kernel_rfl) (by simp) ?_
  refine AllReadyH.cons (o := ⟨some 44, .call ⟨.value (.func 84), #[.tmp 42, .tmp 43], #[3, 29]⟩, 140, "ref.go:88", #[⟨2, .data⟩, ⟨3, .data⟩], none⟩) rfl (fun Kq hKq => ?_) AllReadyH.nil
  go_simp
  (refine (HBG.out _).mono ?_; rintro e w3 ⟨s2, rfl, hr2, hb3⟩; obtain ⟨A2, c2, rfl, hc2, hc29⟩ := hr2.shape; have HR2 := Lib.hid hr2; have HB3 := Lib.hid hb3; have HCV3 : Hid (CV w3 rb _) := Lib.hid (CV.turn (w := w2.drew) CV2.out hb3 hrl2); have hrl3 : rb < w3.heap.size := Nat.lt_of_lt_of_le hrl2 hb3.size; clear hr2 hb3)
  refine hKq.out _ _ ?_ (fun hHeld => ?_)
  · trivial
  clear hKq Kq
  (try simp only [Act.put, tC, tD, tE])
  refine tA 7 ⟨some 47, .indexAddr 143 (.tmp 46) (.tmp 41), 0, "ref.go:88", #[⟨6, .data⟩, ⟨1, .data⟩, ⟨0, .phase⟩, ⟨1, .phase⟩, ⟨2, .phase⟩, ⟨3, .phase⟩, ⟨4, .phase⟩], none⟩ ?vb7 ?rb7
  (try simp only [Act.put, tC, tD, tE])
  refine wpAnyH_ready (rs := [8]) (by kernel_rfl) (by simp) ?_
  refine AllReadyH.cons (o := ⟨none, .store 140 (.tmp 47) (.tmp 44), 0, "ref.go:88", #[⟨7, .data⟩, ⟨4, .data⟩, ⟨4, .chain⟩, ⟨0, .phase⟩, ⟨1, .phase⟩, ⟨2, .phase⟩, ⟨3, .phase⟩, ⟨4, .phase⟩], none⟩) rfl (fun Kq hKq => ?_) AllReadyH.nil
  obtain ⟨k3, f3⟩ := HCV3.out (9 + tk) (by omega); go_simp
  refine hKq.out _ _ ?_ (fun hHeld => ?_)
  · trivial
  clear hKq Kq
  (try simp only [Act.put, tC, tD, tE])
  refine wpAnyH_done (by kernel_rfl) ?_ _
  have CV4 := Lib.hid (HCV3.out.set (i := 9 + tk) (by omega) (.slice A2 N c2))
  have tb : Turns (fun x => x = rb) w3 (w3.setCell ⟨rb, 9 + tk, none⟩ (.slice A2 N c2)) := (Turns.refl (fun x => x = rb) w3).setCell ⟨rb, 9 + tk, none⟩ _ rfl
  have hrl4 : rb < (w3.setCell ⟨rb, 9 + tk, none⟩ (.slice A2 N c2)).heap.size := Nat.lt_of_lt_of_le hrl3 tb.size
  have hsb : (w3.setCell ⟨rb, 9 + tk, none⟩ (.slice A2 N c2)).heap.size = w3.heap.size := by simp [World.setCell]
  generalize w3.setCell ⟨rb, 9 + tk, none⟩ (.slice A2 N c2) = w4 at *
  have TB := Lib.hid tb; have HSB := Lib.hid hsb
  clear tb k3 f3 hsb
  go_upto_region 5 with (fail)
  refine wp_region_held_drew (S := fun _ => True) (by kernel_rfl) ?_ (fun hHeld => ?_)
  · trivial
  refine tA 0 ⟨some 48, .move (.tmp 0), 79, "ref.go:89", #[], none⟩ ?vc0 ?rc0
  (try simp only [Act.put, tC, tD, tE])
  refine tA 1 ⟨some 49, .move (.tmp 1), 3, "ref.go:89", #[], none⟩ ?vc1 ?rc1
  (try simp only [Act.put, tC, tD, tE])
  refine tA 2 ⟨some 50, .move (.tmp 1), 3, "ref.go:89", #[], none⟩ ?vc2 ?rc2
  (try simp only [Act.put, tC, tD, tE])
  refine tA 4 ⟨some 52, .nilCheck (.tmp 48), 0, "ref.go:89", #[⟨0, .data⟩], none⟩ ?vc4 ?rc4
  (try simp only [Act.put, tC, tD, tE])
  refine tA 5 ⟨some 53, .fieldAddr 145 (.tmp 52) 0, 0, "ref.go:89", #[⟨4, .data⟩], none⟩ ?vc5 ?rc5
  (try simp only [Act.put, tC, tD, tE])
  refine wpAnyH_ready (rs := [3]) (by kernel_rfl) (by simp) ?_
  refine AllReadyH.cons (o := ⟨some 51, .call ⟨.value (.func 83), #[.const (.slice none 0 0), .tmp 50], #[141, 3]⟩, 141, "ref.go:89", #[⟨2, .data⟩], none⟩) rfl (fun Kq hKq => ?_) AllReadyH.nil
  go_simp
  (refine (HRN.out _).mono ?_; rintro e w5 ⟨s3, ss3, rfl, ht3, hb5⟩; obtain ⟨A3, c3, hse, hc3, hc39⟩ := ht3.shape; rw [List.length_replicate] at hse hc3; subst hse; have HT3 := Lib.hid ht3; have HB5 := Lib.hid hb5; have HCV5 : Hid (CV w5 rb _) := Lib.hid (CV.turn (w := w4.drew) CV4.out hb5 hrl4); clear ht3 hb5)
  refine hKq.out _ _ ?_ (fun hHeld => ?_)
  · trivial
  clear hKq Kq
  (try simp only [Act.put, tC, tD, tE])
  refine tA 6 ⟨some 54, .indexAddr 142 (.tmp 53) (.tmp 49), 0, "ref.go:89", #[⟨5, .data⟩, ⟨1, .data⟩, ⟨0, .phase⟩, ⟨1, .phase⟩, ⟨2, .phase⟩, ⟨3, .phase⟩], none⟩ ?vc6 ?rc6
  (try simp only [Act.put, tC, tD, tE])
  refine wpAnyH_ready (rs := [7]) (by kernel_rfl) (by simp) ?_
  refine AllReadyH.cons (o := ⟨none, .store 141 (.tmp 54) (.tmp 51), 0, "ref.go:89", #[⟨6, .data⟩, ⟨3, .data⟩, ⟨3, .chain⟩, ⟨0, .phase⟩, ⟨1, .phase⟩, ⟨2, .phase⟩, ⟨3, .phase⟩], none⟩) rfl (fun Kq hKq => ?_) AllReadyH.nil
  obtain ⟨k5, f5⟩ := HCV5.out fk (by omega); go_simp
  refine hKq.out _ _ ?_ (fun hHeld => ?_)
  · trivial
  clear hKq Kq
  (try simp only [Act.put, tC, tD, tE])
  refine wpAnyH_done (by kernel_rfl) ?_ _
  have CV6 := Lib.hid (HCV5.out.set (i := fk) (by omega) (.slice A3 Nf c3))
  have tc : Turns (fun x => x = rb) w5 (w5.setCell ⟨rb, fk, none⟩ (.slice A3 Nf c3)) := (Turns.refl (fun x => x = rb) w5).setCell ⟨rb, fk, none⟩ _ rfl
  have hsc : (w5.setCell ⟨rb, fk, none⟩ (.slice A3 Nf c3)).heap.size = w5.heap.size := by simp [World.setCell]
  generalize w5.setCell ⟨rb, fk, none⟩ (.slice A3 Nf c3) = w6 at *
  have TC := Lib.hid tc; have HSC := Lib.hid hsc
  clear tc k5 f5 hsc
  go_wp2_with fail
  go_ret
  refine ⟨rfl, ?_⟩
  have H := HH.out
  have hl := HL.out
  have htab := HT1.out
  have htab3 := HT3.out
  have hd4 : w4.drew.heap.size = w4.heap.size := rfl
  have s1 : w.heap.size ≤ w1.heap.size := HB1.out.size
  have s2 : w2.heap.size = w1.heap.size := HSA.out
  have s3 : w2.heap.size ≤ w3.heap.size := HB3.out.size
  have s4 : w4.heap.size = w3.heap.size := HSB.out
  have s5 : w4.heap.size ≤ w5.heap.size := HB5.out.size
  have s6 : w6.heap.size = w5.heap.size := HSC.out
  have t56 := TC.out
  have t46 : Turns (fun x => x = rb) w4 w6 := ((Turns.refl (fun x => x = rb) w4).drew.trans (Turns.of_below (S := fun x => x = rb) HB5.out) (fun _ _ e => e)).trans t56 (fun _ _ e => e)
  have t36 := TB.out.trans t46 (fun _ _ e => e)
  have t26 : Turns (fun x => x = rb) w2 w6 := ((Turns.refl (fun x => x = rb) w2).drew.trans (Turns.of_below (S := fun x => x = rb) HB3.out) (fun _ _ e => e)).trans t36 (fun _ _ e => e)
  have t16 := TA.out.trans t26 (fun _ _ e => e)
  have t06 : Turns (fun x => x = rb) w w6 := ((Turns.refl (fun x => x = rb) w).drew.trans (Turns.of_below (S := fun x => x = rb) HB1.out) (fun _ _ e => e)).trans t16 (fun _ _ e => e)
  have l1 : ∀ x r, NewT (.slice A1 N c1) ss1 (tk : Int) x r → w.heap.size ≤ x ∧ x < w1.heap.size := fun x r e => NewT.lt htab e
  have l2 : ∀ x, (Value.slice A2 N c2).ownBlock = some x → w2.heap.size ≤ x ∧ x < w3.heap.size := fun x e => HR2.out.lt x e
  have l3 : ∀ x r, NewT (.slice A3 Nf c3) ss3 (fk : Int) x r → w4.heap.size ≤ x ∧ x < w5.heap.size := fun x r e => NewT.lt htab3 e
  obtain ⟨own', o1, o2, o3⟩ := own_new own (fun x r => NewT (.slice A1 N c1) ss1 (tk : Int) x r ∨ ((Value.slice A2 N c2).ownBlock = some x ∧ r = .tim (tk : Int)) ∨ NewT (.slice A3 Nf c3) ss3 (fk : Int) x r) (fun x => own x = some (.tab (fk : Int)) ∨ ∃ i, own x = some (.q (fk : Int) i)) w.heap.size (fun x r r' e e' => by
    rcases e with h1 | ⟨h1, rfl⟩ | h1
    · rcases e' with h2 | ⟨h2, rfl⟩ | h2
      · exact NewT.fun htab h1 h2
      · have := l1 x _ h1; have := l2 x h2; omega
      · have := l1 x _ h1; have := l3 x _ h2; omega
    · rcases e' with h2 | ⟨h2, rfl⟩ | h2
      · have := l1 x _ h2; have := l2 x h1; omega
      · rfl
      · have := l3 x _ h2; have := l2 x h1; omega
    · rcases e' with h2 | ⟨h2, rfl⟩ | h2
      · have := l1 x _ h2; have := l3 x _ h1; omega
      · have := l2 x h2; have := l3 x _ h1; omega
      · exact NewT.fun htab3 h1 h2) (fun x r e => by
    rcases e with h1 | ⟨h1, rfl⟩ | h1
    · exact (l1 x _ h1).1
    · have := l2 x h1; omega
    · have := l3 x _ h1; omega) (fun x r e => (H.fp x r e).2)
  have hkeep : ∀ x r, own x = some r → r ≠ .tab (fk : Int) → (∀ i, r ≠ .q (fk : Int) i) → own' x = some r := fun x r e hr hr2 => o2 x r e (fun hd => by
    rcases hd with hd | ⟨i, hd⟩
    · exact hr (by rw [e] at hd; simpa using hd)
    · exact hr2 i (by rw [e] at hd; simpa using hd))
  have hMt : grown M h N (fk : Int) (tk : Int) now (tk : Int) = fresh now (reh h N E) := by unfold grown; rw [upd_same, hE]
  have hMf : grown M h N (fk : Int) (tk : Int) now (fk : Int) = hollow (M (fk : Int)) := by unfold grown; rw [upd_ne _ _ (by omega), upd_same]
  have hMo : ∀ b : Int, b ≠ tk → b ≠ fk → grown M h N (fk : Int) (tk : Int) now b = M b := fun b e1 e2 => by unfold grown; rw [upd_ne _ _ e1, upd_ne _ _ e2]
  refine ⟨own', ⟨rb, upd (upd Q tk (.slice A1 N c1)) fk (.slice A3 Nf c3), upd T tk (.slice A2 N c2), upd (upd V tk (fun i => (ss1[i]?).getD nilS)) fk (fun i => (ss3[i]?).getD nilS), ?_⟩, t06.mono (fun x _ e => by subst e; exact ⟨_, H.os⟩), fun x r e => by
    rcases o3 x r e with h' | h1 | ⟨h1, rfl⟩ | h1
    · exact .inl ⟨r, h'⟩
    · exact .inr (l1 x _ h1).1
    · have := l2 x h1; exact .inr (by omega)
    · have := l3 x _ h1; exact .inr (by omega)⟩
  have hbase := (H.fp rb _ H.os).1
  refine ⟨fun x r e => ?_, rfl, hkeep rb _ H.os (by simp) (by simp), fun j hj => ?_, fun j hj => ?_, fun b hb => ?_, fun j hj => ?_, fun j hj => ?_, fun j i hi => ?_, fun j x hj e => ?_, fun j x hj e => ?_, fun j i x hi e => ?_⟩
  · rcases o3 x r e with h' | h1 | ⟨h1, rfl⟩ | h1
    · have := H.fp x r h'; omega
    · have := l1 x _ h1; omega
    · have := l2 x h1; omega
    · have := l3 x _ h1; omega
  · refine ⟨(CV6.out j (by omega)).1.trans (congrArg some ?_), (CV6.out j (by omega)).2⟩
    by_cases e1 : j = fk
    · subst e1; rw [upd_same, upd_same]
    · rw [upd_ne _ _ e1, upd_ne _ _ e1, upd_ne _ _ (by omega)]
      by_cases e2 : j = tk
      · subst e2; rw [upd_same, upd_same]
      · rw [upd_ne _ _ e2, upd_ne _ _ e2, if_pos hj]
  · refine ⟨(CV6.out (9 + j) (by omega)).1.trans (congrArg some ?_), (CV6.out (9 + j) (by omega)).2⟩
    rw [upd_ne _ _ (show 9 + j ≠ fk by omega)]
    by_cases e2 : j = tk
    · subst e2; rw [upd_same, upd_same]
    · rw [upd_ne _ _ (show 9 + j ≠ 9 + tk by omega), upd_ne _ _ (show 9 + j ≠ tk by omega), upd_ne _ _ e2, if_neg (by omega), show 9 + j - 9 = j by omega]
  · rw [hMo b (by omega) (by omega)]
    exact H.no b hb
  · by_cases e1 : j = fk
    · subst e1
      rw [upd_same, upd_same, hMf, hollow_len, hl]
      have := tab_qflat htab3
      rw [List.length_replicate] at this
      exact (this.keep t56 (fun x e e2 => by have := htab3.row.lt x e; omega)).base (Nat.zero_le _)
    · rw [upd_ne _ _ e1, upd_ne _ _ e1]
      by_cases e2 : j = tk
      · subst e2
        rw [upd_same, upd_same, hMt, fresh_len, reh_len]
        have := tab_qflat htab
        rw [reh_len] at this
        exact (this.keep t16 (fun x e e2 => by have := htab.row.lt x e; omega)).base (Nat.zero_le _)
      · rw [upd_ne _ _ e2, upd_ne _ _ e2, hMo _ (by omega) (by omega)]
        exact (H.hq j hj).keep t06 (fun x e e3 => H.ne (H.oq j x hj e) H.os (by simp) e3)
  · by_cases e2 : j = tk
    · subst e2
      rw [upd_same, hMt, fresh_len, tflat_fresh, reh_len]
      exact (HR2.out.keep t36 (fun x e e2 => by have := l2 x e; omega)).base (Nat.zero_le _)
    · rw [upd_ne _ _ e2]
      by_cases e1 : j = fk
      · subst e1
        rw [hMf, hollow_len, tflat_hollow]
        exact (H.ht j hj).keep t06 (fun x e e3 => H.ne (H.ot j x hj e) H.os (by simp) e3)
      · rw [hMo _ (by omega) (by omega)]
        exact (H.ht j hj).keep t06 (fun x e e3 => H.ne (H.ot j x hj e) H.os (by simp) e3)
  · by_cases e1 : j = fk
    · subst e1
      rw [hMf, hollow_len] at hi
      rw [upd_same, hMf, hollow_at _ hi]
      obtain ⟨v, hv, hr, _⟩ := htab3.qs i (by rw [List.length_replicate]; omega)
      rw [rep_at] at hr
      rw [hv]
      exact (hr.keep t56 (fun x e e2 => by have := htab3.lt hv e; omega)).base (Nat.zero_le _)
    · rw [upd_ne _ _ e1]
      by_cases e2 : j = tk
      · subst e2
        rw [hMt, fresh_len] at hi
        rw [upd_same, hMt, fresh_at _ _ hi]
        obtain ⟨v, hv, hr, _⟩ := htab.qs i hi
        rw [hv]
        exact (hr.keep t16 (fun x e e2 => by have := htab.lt hv e; omega)).base (Nat.zero_le _)
      · rw [hMo _ (by omega) (by omega)] at hi ⊢
        rw [upd_ne _ _ e2]
        exact (H.hv j i hi).keep t06 (fun x e e3 => H.ne (H.ov j i x hi e) H.os (by simp) e3)
  · by_cases e1 : j = fk
    · subst e1
      rw [upd_same] at e
      exact o1 _ _ (.inr (.inr (.inl ⟨e, rfl⟩)))
    · rw [upd_ne _ _ e1] at e
      by_cases e2 : j = tk
      · subst e2
        rw [upd_same] at e
        exact o1 _ _ (.inl (.inl ⟨e, rfl⟩))
      · rw [upd_ne _ _ e2] at e
        exact hkeep x _ (H.oq j x hj e) (by simp; omega) (by simp)
  · by_cases e2 : j = tk
    · subst e2
      rw [upd_same] at e
      exact o1 _ _ (.inr (.inl ⟨e, rfl⟩))
    · rw [upd_ne _ _ e2] at e
      exact hkeep x _ (H.ot j x hj e) (by simp) (by simp)
  · by_cases e1 : j = fk
    · subst e1
      rw [hMf, hollow_len] at hi
      rw [upd_same] at e
      obtain ⟨v, hv, hr, _⟩ := htab3.qs i (by rw [List.length_replicate]; omega)
      rw [hv] at e
      exact o1 _ _ (.inr (.inr (.inr ⟨i, v, hv, e, rfl⟩)))
    · rw [upd_ne _ _ e1] at e
      by_cases e2 : j = tk
      · subst e2
        rw [hMt, fresh_len] at hi
        rw [upd_same] at e
        obtain ⟨v, hv, hr, _⟩ := htab.qs i hi
        rw [hv] at e
        exact o1 _ _ (.inl (.inr ⟨i, v, hv, e, rfl⟩))
      · rw [hMo _ (by omega) (by omega)] at hi
        rw [upd_ne _ _ e2] at e
        exact hkeep x _ (H.ov j i x hi e) (by simp) (by simp; omega)
end
end Go.Proofs.YtpmafdggbeppcaaGreatDoor.S10
namespace Go.Proofs.YtpmafdggbeppcaaGreatDoor.S10
open Go.Proofs.YtpmafdggbeppcaaGreatDoor
open Go.RowKit
end Go.Proofs.YtpmafdggbeppcaaGreatDoor.S10
namespace Go.Proofs.YtpmafdggbeppcaaGreatDoor.S10
open Go.Proofs.YtpmafdggbeppcaaGreatDoor
open Go.RowKit
theorem otherP_any (b i : Int) (w : World) : Calls Tryz.prog 40 #[.agg #[.int .i64 b, .int .i64 i]] w fun e w' => e = .returned (.agg #[.int .i64 b, .int .i64 i]) ∧ Below w.heap.size w w' := by
  go_enter Tryz.func40, Tryz.ntmps40
  go_wp2
  exact bodyPost_ret (v := .agg #[.int .i64 b, .int .i64 i]) (by simp [results, Tryz.results40, go_sem]) rfl ⟨rfl, by first | exact ((Below.refl _ w).alloc (Nat.le_refl _) _).alloc (by simp) _ | exact below1 w _⟩
theorem otherT_any (a f : Int) (w : World) : Calls Tryz.prog 51 #[.agg #[.int .u64 a, .int .u64 f]] w fun e w' => e = .returned (.agg #[.int .u64 a, .int .u64 f]) ∧ Below w.heap.size w w' := by
  go_enter Tryz.func51, Tryz.ntmps51
  go_wp2
  exact bodyPost_ret (v := .agg #[.int .u64 a, .int .u64 f]) (by simp [results, Tryz.results51, go_sem]) rfl ⟨rfl, by first | exact ((Below.refl _ w).alloc (Nat.le_refl _) _).alloc (by simp) _ | exact below1 w _⟩
theorem neqT (a b c d : Int) (w : World) : (binOp .neq 136 (.agg #[.int .u64 a, .int .u64 b]) (.agg #[.int .u64 c, .int .u64 d])).run Tryz.prog w = .ok (.bool (!decide (a = c ∧ b = d))) w := by
  simp [go_sem, Tryz.underlying136]
  by_cases h1 : a = c <;> by_cases h2 : b = d <;> simp [h1, h2]
end Go.Proofs.YtpmafdggbeppcaaGreatDoor.S10
namespace Go.Proofs.YtpmafdggbeppcaaGreatDoor.S10
open Go.Proofs.YtpmafdggbeppcaaGreatDoor
theorem one_of (L : List Ent) (a : Nat) : ∀ n, ((List.range n).map fun i => if i = a then L else []).flatten = if a < n then L else []
  | 0 => by simp
  | n + 1 => by
    rw [List.range_succ, List.map_append, List.flatten_append, one_of L a n]
    simp only [List.map_cons, List.map_nil, List.flatten_cons, List.flatten_nil, List.append_nil]
    by_cases h1 : a < n
    · rw [if_pos h1, if_neg (by omega), if_pos (by omega), List.append_nil]
    · by_cases h2 : n = a
      · rw [if_neg h1, if_pos h2, if_pos (by omega), List.nil_append]
      · rw [if_neg h1, if_neg h2, if_neg (by omega), List.nil_append]
theorem reh_below (h : Nat → Nat) (E : List Ent) : ∀ n, (reh h n E).flatten.length = (E.filter fun e => decide (h e.k.toNat < n)).length
  | 0 => by
    have : (E.filter fun e => decide (h e.k.toNat < 0)) = [] := List.filter_eq_nil_iff.2 (by simp)
    rw [this]; rfl
  | n + 1 => by
    have hs : reh h (n + 1) E = reh h n E ++ [bk h n E] := by unfold reh; rw [List.range_succ, List.map_append]; rfl
    rw [hs, List.flatten_append, List.length_append, reh_below h E n]
    simp only [List.flatten_cons, List.flatten_nil, List.append_nil]
    unfold bk
    clear hs
    induction E with
    | nil => rfl
    | cons e r ih =>
      simp only [List.filter_cons]
      by_cases h1 : h e.k.toNat < n
      · simp only [h1, show h e.k.toNat < n + 1 by omega, show ¬ h e.k.toNat = n by omega, decide_true, if_true, beq_iff_eq, if_false, List.length_cons]
        omega
      · by_cases h2 : h e.k.toNat = n
        · simp only [h2, show ¬ n < n by omega, show n < n + 1 by omega, decide_true, decide_false, if_true, beq_self_eq_true, List.length_cons]
          simp only [Bool.false_eq_true, if_false]
          omega
        · simp only [h1, h2, show ¬ h e.k.toNat < n + 1 by omega, decide_false, beq_iff_eq, if_false, Bool.false_eq_true]
          exact ih
theorem reh_total (h : Nat → Nat) (n : Nat) (E : List Ent) (hk : Keys E) (hlt : ∀ k, k < 4294967296 → h k < n) : (reh h n E).flatten.length = E.length := by
  rw [reh_below]
  congr 1
  rw [List.filter_eq_self]
  intro e he
  obtain ⟨k, hk1, hk2⟩ := hk e he
  rw [hk1, Int.toNat_natCast]
  simpa using hlt k hk2
end Go.Proofs.YtpmafdggbeppcaaGreatDoor.S10
namespace Go.Proofs.YtpmafdggbeppcaaGreatDoor.S10
open Go.Proofs.YtpmafdggbeppcaaGreatDoor
open Go.RowKit
structure Good (M : Int → List Bk) (N : Nat) : Prop where
  no : ∀ b, (b < 2 ∨ 8 < b) → M b = []
  size : ∀ b, M b ≠ [] → (M b).length = 2 ^ b.toNat
  keys : ∀ b, Keys ((M b).map Bk.q).flatten
  few : ∀ b, ((M b).map Bk.q).flatten.length ≤ N
theorem Good.len {M : Int → List Bk} {N : Nat} (h : Good M N) (b : Int) : (M b).length ≤ 256 := by
  by_cases h0 : M b = []
  · rw [h0]; simp
  · rw [h.size b h0]
    have : b.toNat ≤ 8 := by
      by_cases h1 : b < 2 ∨ 8 < b
      · exact absurd (h.no b h1) h0
      · omega
    calc 2 ^ b.toNat ≤ 2 ^ 8 := Nat.pow_le_pow_right (by omega) this
      _ = 256 := rfl
theorem Good.mono {M : Int → List Bk} {N N' : Nat} (h : Good M N) (hn : N ≤ N') : Good M N' := ⟨h.no, h.size, h.keys, fun b => Nat.le_trans (h.few b) hn⟩
theorem mem_q {L : List Bk} {i : Nat} (hi : i < L.length) {e : Ent} (he : e ∈ L[i]!.q) : e ∈ (L.map Bk.q).flatten := by
  rw [List.mem_flatten]
  rw [getElem!_pos L i hi] at he
  exact ⟨_, List.mem_map.2 ⟨_, List.getElem_mem hi, rfl⟩, he⟩
theorem q_len {L : List Bk} {i : Nat} (hi : i < L.length) : L[i]!.q.length ≤ (L.map Bk.q).flatten.length := by
  have h1 := cum_le (L.map Bk.q) (i + 1) (by rw [List.length_map]; omega)
  rw [cum_succ (by rw [List.length_map]; exact hi), map_at L hi] at h1
  omega
theorem flat_set (L : List Bk) {i : Nat} (hi : i < L.length) (x : Bk) : ((L.set i x).map Bk.q).flatten.length + L[i]!.q.length = (L.map Bk.q).flatten.length + x.q.length := by
  have h1 : L = L.take i ++ L[i]! :: L.drop (i + 1) := by
    rw [getElem!_pos L i hi, List.getElem_cons_drop, List.take_append_drop]
  have h2 : L.set i x = L.take i ++ x :: L.drop (i + 1) := by rw [List.set_eq_take_append_cons_drop, if_pos hi]
  have h3 : (L.map Bk.q).flatten.length = ((L.take i ++ L[i]! :: L.drop (i + 1)).map Bk.q).flatten.length := by rw [← h1]
  rw [h3, h2]
  simp only [List.map_append, List.map_cons, List.flatten_append, List.flatten_cons, List.length_append]
  omega
theorem mem_set {L : List Bk} {i : Nat} (hi : i < L.length) {x : Bk} {e : Ent} (he : e ∈ ((L.set i x).map Bk.q).flatten) : e ∈ (L.map Bk.q).flatten ∨ e ∈ x.q := by
  rw [List.mem_flatten] at he
  obtain ⟨l, hl, he⟩ := he
  rw [List.mem_map] at hl
  obtain ⟨y, hy, rfl⟩ := hl
  rcases List.mem_or_eq_of_mem_set hy with h | rfl
  · exact .inl (List.mem_flatten.2 ⟨_, List.mem_map.2 ⟨_, h, rfl⟩, he⟩)
  · exact .inr he
theorem Good.put {M : Int → List Bk} {N : Nat} (h : Good M N) (b : Int) {i : Nat} (hi : i < (M b).length) (x : Bk) (hk : Keys x.q) (X : Nat) (hx : x.q.length ≤ (M b)[i]!.q.length + X) : Good (upd M b ((M b).set i x)) (N + X) := by
  refine ⟨upd_no h.no b i x, fun b' hb => ?_, fun b' => ?_, fun b' => ?_⟩
  · rw [upd_len]
    refine h.size b' (fun e => hb ?_)
    have := upd_len M b i x b'
    rw [e] at this
    exact List.eq_nil_of_length_eq_zero (by simpa using this)
  · by_cases e : b' = b
    · subst e
      rw [upd_same]
      intro y hy
      rcases mem_set hi hy with h' | h'
      · exact h.keys b' y h'
      · exact hk y h'
    · rw [upd_ne _ _ e]; exact h.keys b'
  · by_cases e : b' = b
    · subst e
      rw [upd_same]
      have h1 := flat_set (M b') hi x
      have h2 := h.few b'
      omega
    · rw [upd_ne _ _ e]
      have := h.few b'
      omega
theorem hollow_flat (L : List Bk) : ((hollow L).map Bk.q).flatten = [] := by
  rw [List.flatten_eq_nil_iff]
  intro l hl
  simp only [hollow, List.map_map, List.mem_map] at hl
  obtain ⟨x, _, rfl⟩ := hl
  rfl
theorem fresh_q (now : Int) (Ls : List (List Ent)) : (fresh now Ls).map Bk.q = Ls := by
  simp only [fresh, List.map_map]
  exact (List.map_congr_left (fun _ _ => rfl)).trans (List.map_id _)
theorem keys_reh {h : Nat → Nat} {E : List Ent} (hk : Keys E) (n : Nat) : Keys (reh h n E).flatten := fun e he => by
  rw [List.mem_flatten] at he
  obtain ⟨l, hl, he⟩ := he
  simp only [reh, List.mem_map] at hl
  obtain ⟨i, _, rfl⟩ := hl
  exact hk e (List.mem_filter.1 he).1
theorem Good.grow {M : Int → List Bk} {N : Nat} (hg : Good M N) {fr tg : Int} (now : Int) (h1 : 2 ≤ fr) (h2 : fr < tg) (h3 : tg ≤ 8) {h : Nat → Nat} (hlt : ∀ k, k < 4294967296 → h k < 2 ^ tg.toNat) : Good (grown M h (2 ^ tg.toNat) fr tg now) N := by
  unfold grown
  refine ⟨fun b hb => ?_, fun b hb => ?_, fun b => ?_, fun b => ?_⟩
  · rw [upd_ne _ _ (by omega), upd_ne _ _ (by omega)]; exact hg.no b hb
  · by_cases e : b = tg
    · subst e
      rw [upd_same, fresh_len, reh_len]
    · rw [upd_ne _ _ e] at hb ⊢
      by_cases e2 : b = fr
      · subst e2
        rw [upd_same] at hb ⊢
        rw [hollow_len]
        exact hg.size b (fun e3 => hb (by rw [e3]; rfl))
      · rw [upd_ne _ _ e2] at hb ⊢
        exact hg.size b hb
  · by_cases e : b = tg
    · subst e
      rw [upd_same, fresh_q]
      exact keys_reh (hg.keys fr) _
    · rw [upd_ne _ _ e]
      by_cases e2 : b = fr
      · subst e2
        rw [upd_same, hollow_flat]
        intro e he; simp at he
      · rw [upd_ne _ _ e2]; exact hg.keys b
  · by_cases e : b = tg
    · subst e
      rw [upd_same, fresh_q, reh_total h _ _ (hg.keys fr) hlt]
      exact hg.few fr
    · rw [upd_ne _ _ e]
      by_cases e2 : b = fr
      · subst e2
        rw [upd_same, hollow_flat]; simp
      · rw [upd_ne _ _ e2]; exact hg.few b
theorem good_first (now : Int) : Good (M0 now) 0 := by
  have h2 : M0 now 2 = fresh now (List.replicate 4 []) := upd_same _ _ _
  have hno : ∀ b, b ≠ 2 → M0 now b = [] := fun b hb => upd_ne _ _ hb
  have hfl : (List.replicate 4 ([] : List Ent)).flatten = [] := rfl
  refine ⟨fun b hb => hno b (by omega), fun b hb => ?_, fun b => ?_, fun b => ?_⟩
  · by_cases e : b = 2
    · subst e; rw [h2, fresh_len]; rfl
    · exact absurd (hno b e) hb
  · by_cases e : b = 2
    · subst e; rw [h2, fresh_q, hfl]; intro e he; simp at he
    · rw [hno b e]; intro e he; simp at he
  · by_cases e : b = 2
    · subst e; rw [h2, fresh_q, hfl]; simp
    · rw [hno b e]; simp
theorem St.mono {w : World} {base : Nat} {own : Nat → Option Role} {s : Value} {n n' : Nat} {M : Int → List Bk} (h : St w base own s n M) (hn : n ≤ n') : St w base own s n' M := by
  obtain ⟨sb, mb, F, V, h⟩ := h
  obtain ⟨D, h1, h2, h3⟩ := h.hm
  exact ⟨sb, mb, F, V, h.fp, h.hs, h.hc, h.os, ⟨D, h1.mono hn, h2, h3⟩, h.om, h.ht, h.ot, h.hq, h.oq⟩
section
variable {M : Int → List Bk} {N : Nat}
theorem out_or (M : Int → List Bk) (b i : Int) : (i < 0 ∨ ((M b).length : Int) ≤ i) ∨ ∃ k : Nat, i = (k : Int) ∧ k < (M b).length := by
  by_cases h : i < 0 ∨ ((M b).length : Int) ≤ i
  · exact .inl h
  · exact .inr ⟨i.toNat, by omega, by omega⟩
theorem put_all (g : Good M N) {b : Int} (hb : InI b) (i : Int) {D : List Ent} (hk : Keys D) (hD : D.length ≤ 60) : ∃ (a : Bool) (M' : Int → List Bk), Good M' (N + 60) ∧
    (∀ W base own s n b0 A c, St W base own s n M → Rd W b0 A (flat D) → b0 ≤ W.heap.size → Calls Tryz.prog 41 #[s, .agg #[.int .i64 b, .int .i64 i], .slice A D.length c] W fun e w' => e = .returned (.bool a) ∧ ∃ own', St w' base own' s n M' ∧ Turns (Mine own) W w' ∧ Fresh own own' W) ∧
    (∀ W base own s b0 A c, Rt W base own s M → Rd W b0 A (flat D) → b0 ≤ W.heap.size → Calls Tryz.prog 42 #[s, .agg #[.int .i64 b, .int .i64 i], .slice A D.length c] W fun e w' => e = .returned (.bool a) ∧ ∃ own', Rt w' base own' s M' ∧ Turns (Mine own) W w' ∧ Fresh own own' W) := by
  rcases out_or M b i with h | ⟨k, rfl, h⟩
  · refine ⟨false, M, g.mono (by omega), fun W base own s n b0 A c hs hr hb0 => ?_, fun W base own s b0 A c hs hr hb0 => ?_⟩
    · obtain ⟨F, hr⟩ := hs.rs
      refine (put_no hr hb h A D.length c).mono ?_
      rintro e w' ⟨rfl, hbl⟩
      exact ⟨rfl, own, hs.new hbl, Turns.of_below hbl, Fresh.refl _ _⟩
    · refine (rput_no hs h A D.length c).mono ?_
      rintro e w' ⟨rfl, hbl⟩
      exact ⟨rfl, own, hs.new hbl, Turns.of_below hbl, Fresh.refl _ _⟩
  · refine ⟨true, _, g.put b h { (M b)[k]! with q := D } hk 60 (by show D.length ≤ _; omega), fun W base own s n b0 A c hs hr hb0 => put_yes hs hb h hr hb0 (by omega), fun W base own s b0 A c hs hr hb0 => rput_yes hs h hr hb0 (by omega)⟩
theorem putT_all (g : Good M N) {b : Int} (hb : InI b) (i ta tf : Int) : ∃ (a : Bool) (M' : Int → List Bk), Good M' N ∧
    (∀ W base own s n, St W base own s n M → Calls Tryz.prog 44 #[s, .agg #[.int .i64 b, .int .i64 i], .agg #[.int .u64 ta, .int .u64 tf]] W fun e w' => e = .returned (.bool a) ∧ St w' base own s n M' ∧ Turns (Mine own) W w') ∧
    (∀ W base own s, Rt W base own s M → Calls Tryz.prog 45 #[s, .agg #[.int .i64 b, .int .i64 i], .agg #[.int .u64 ta, .int .u64 tf]] W fun e w' => e = .returned (.bool a) ∧ Rt w' base own s M' ∧ Turns (Mine own) W w') := by
  rcases out_or M b i with h | ⟨k, rfl, h⟩
  · refine ⟨false, M, g, fun W base own s n hs => ?_, fun W base own s hs => ?_⟩
    · obtain ⟨F, hr⟩ := hs.rs
      refine (putT_no hr hb h ta tf).mono ?_
      rintro e w' ⟨rfl, hbl⟩
      exact ⟨rfl, hs.new hbl, Turns.of_below hbl⟩
    · refine (rputT_no hs h ta tf).mono ?_
      rintro e w' ⟨rfl, hbl⟩
      exact ⟨rfl, hs.new hbl, Turns.of_below hbl⟩
  · have hk : Keys (M b)[k]!.q := fun e he => g.keys b e (mem_q h he)
    exact ⟨true, _, (g.put b h { (M b)[k]! with a := ta, f := tf } hk 0 (by show (M b)[k]!.q.length ≤ _; omega)), fun W base own s n hs => putT_yes hs hb h ta tf, fun W base own s hs => rputT_yes hs h ta tf⟩
theorem queue_all (g : Good M N) (hN : N ≤ 100000) {b : Int} (hb : InI b) (i : Int) : ∃ D : List Ent, D.length ≤ 100000 ∧
    (∀ W base own s n, St W base own s n M → Calls Tryz.prog 55 #[s, .agg #[.int .i64 b, .int .i64 i]] W fun e w' => ∃ A', e = .returned (.slice A' D.length D.length) ∧ RowE w' W.heap.size (.slice A' D.length D.length) D ∧ Below W.heap.size W w') ∧
    (∀ W base own s, Rt W base own s M → Calls Tryz.prog 56 #[s, .agg #[.int .i64 b, .int .i64 i]] W fun e w' => ∃ A' c', e = .returned (.slice A' D.length c') ∧ D.length ≤ c' ∧ c' ≤ 9223372036854775807 ∧ Rd w' W.heap.size A' (flat D) ∧ Below W.heap.size W w') := by
  rcases out_or M b i with h | ⟨k, rfl, h⟩
  · refine ⟨[], by simp, fun W base own s n hs => ?_, fun W base own s hs => ?_⟩
    · obtain ⟨F, hr⟩ := hs.rs
      refine (queue_no hr hb h).mono ?_
      rintro e w' ⟨rfl, hbl⟩
      exact ⟨none, rfl, row_nil _ _ _, hbl⟩
    · refine (rqueue_no hs h).mono ?_
      rintro e w' ⟨rfl, hbl⟩
      exact ⟨none, 0, rfl, by simp, by omega, Rd.nil, hbl⟩
  · have hq := q_len h
    have := g.few b
    refine ⟨(M b)[k]!.q, by omega, fun W base own s n hs => ?_, fun W base own s hs => rqueue_yes hs h⟩
    obtain ⟨F, hr⟩ := hs.rs
    exact queue_yes hr hb h (by omega)
theorem timer_all (M : Int → List Bk) {b : Int} (hb : InI b) (i : Int) : ∃ ta tf : Int,
    (∀ W base own s n, St W base own s n M → Calls Tryz.prog 52 #[s, .agg #[.int .i64 b, .int .i64 i]] W fun e w' => e = .returned (.agg #[.int .u64 ta, .int .u64 tf]) ∧ Below W.heap.size W w') ∧
    (∀ W base own s, Rt W base own s M → Calls Tryz.prog 53 #[s, .agg #[.int .i64 b, .int .i64 i]] W fun e w' => e = .returned (.agg #[.int .u64 ta, .int .u64 tf]) ∧ Below W.heap.size W w') := by
  rcases out_or M b i with h | ⟨k, rfl, h⟩
  · refine ⟨0, 0, fun W base own s n hs => ?_, fun W base own s hs => rtimer_no hs h⟩
    obtain ⟨F, hr⟩ := hs.rs
    exact timer_no hr hb h
  · refine ⟨_, _, fun W base own s n hs => ?_, fun W base own s hs => rtimer_yes hs h⟩
    obtain ⟨F, hr⟩ := hs.rs
    exact timer_yes hr hb h
end
structure Both (w : World) (base : Nat) (own ownR : Nat → Option Role) (s r : Value) (n : Nat) (M : Int → List Bk) : Prop where
  st : St w base own s n M
  rt : Rt w base ownR r M
  dj : ∀ g, Mine own g → ¬ Mine ownR g
theorem Both.keep {w : World} {base : Nat} {own ownR : Nat → Option Role} {s r : Value} {n : Nat} {M : Int → List Bk} (h : Both w base own ownR s r n M) {S : Nat → Prop} {w' : World} (t : Turns S w w') (h1 : ∀ g, Mine own g → ¬ S g) (h2 : ∀ g, Mine ownR g → ¬ S g) : Both w' base own ownR s r n M := ⟨h.st.keep t h1, h.rt.keep t h2, h.dj⟩
theorem Both.new {w : World} {base : Nat} {own ownR : Nat → Option Role} {s r : Value} {n : Nat} {M : Int → List Bk} (h : Both w base own ownR s r n M) {w' : World} (hb : Below w.heap.size w w') : Both w' base own ownR s r n M := h.keep (Turns.of_below (S := fun _ => False) hb) (fun _ _ e => e) (fun _ _ e => e)
end Go.Proofs.YtpmafdggbeppcaaGreatDoor.S10
namespace Go.Proofs.YtpmafdggbeppcaaGreatDoor.S10
open Go.Proofs.YtpmafdggbeppcaaGreatDoor
open Go.RowKit
structure Sc (W : World) (base : Nat) (own ownR : Nat → Option Role) (s r : Value) (n : Nat) (M R : Int → List Bk) (Z : Nat → Prop) : Prop where
  st : St W base own s n M
  rt : Rt W base ownR r R
  dj : ∀ g, Mine own g → ¬ Mine ownR g
  cl : ∀ g, Z g → g < W.heap.size ∧ ¬ Mine own g ∧ ¬ Mine ownR g
section
variable {W w' : World} {base : Nat} {own ownR own' : Nat → Option Role} {s r : Value} {n n' : Nat} {M M' R R' : Int → List Bk} {Z : Nat → Prop}
theorem Sc.turn (h : Sc W base own ownR s r n M R Z) {S : Nat → Prop} (t : Turns S W w') (h1 : ∀ g, Mine own g → ¬ S g) (h2 : ∀ g, Mine ownR g → ¬ S g) : Sc w' base own ownR s r n M R Z :=
  ⟨h.st.keep t h1, h.rt.keep t h2, h.dj, fun g hz => ⟨Nat.lt_of_lt_of_le (h.cl g hz).1 t.size, (h.cl g hz).2⟩⟩
theorem Sc.new (h : Sc W base own ownR s r n M R Z) (hb : Below W.heap.size W w') : Sc w' base own ownR s r n M R Z :=
  h.turn (Turns.of_below (S := fun _ => False) hb) (fun _ _ e => e) (fun _ _ e => e)
theorem Sc.drew (h : Sc W base own ownR s r n M R Z) : Sc W.drew base own ownR s r n M R Z := h.turn (Turns.refl (fun _ => False) W).drew (fun _ _ e => e) (fun _ _ e => e)
theorem Sc.one (h : Sc W base own ownR s r n M R Z) (hs : St w' base own' s n' M') (t : Turns (Mine own) W w') (f : Fresh own own' W) : Sc w' base own' ownR s r n' M' R Z ∧ Turns (fun g => ¬ Z g) W w' ∧ Below base W w' := by
  have hr : ∀ g, Mine ownR g → g < W.heap.size := fun g hg => (h.rt.fp hg).2
  refine ⟨⟨hs, h.rt.keep t (fun g hg hs => h.dj g hs hg), fun g hg hg' => ?_, fun g hz => ?_⟩, t.mono (fun g _ hg hz => (h.cl g hz).2.1 hg), t.below h.st.le (fun k hk hm => by have := (h.st.fp hm).1; omega)⟩
  · obtain ⟨r1, e⟩ := hg
    rcases f g r1 e with h' | h'
    · exact h.dj g h' hg'
    · have := hr g hg'; omega
  · obtain ⟨h1, h2, h3⟩ := h.cl g hz
    refine ⟨Nat.lt_of_lt_of_le h1 t.size, fun ⟨r1, e⟩ => ?_, h3⟩
    rcases f g r1 e with h' | h'
    · exact h2 h'
    · omega
theorem Sc.add (h : Sc W base own ownR s r n M R Z) (hb : Below W.heap.size W w') {Y : Nat → Prop} (hy : ∀ g, Y g → W.heap.size ≤ g ∧ g < w'.heap.size) : Sc w' base own ownR s r n M R (fun g => Z g ∨ Y g) := by
  have h1 := h.new hb
  refine ⟨h1.st, h1.rt, h.dj, fun g hg => ?_⟩
  rcases hg with hz | hy'
  · exact h1.cl g hz
  · have := hy g hy'
    refine ⟨this.2, fun hm => ?_, fun hm => ?_⟩
    · have := (h.st.fp hm).2; omega
    · have := (h.rt.fp hm).2; omega
theorem Sc.sub (h : Sc W base own ownR s r n M R Z) {Y : Nat → Prop} (hy : ∀ g, Y g → Z g) : Sc W base own ownR s r n M R Y := ⟨h.st, h.rt, h.dj, fun g hg => h.cl g (hy g hg)⟩
end
end Go.Proofs.YtpmafdggbeppcaaGreatDoor.S10
