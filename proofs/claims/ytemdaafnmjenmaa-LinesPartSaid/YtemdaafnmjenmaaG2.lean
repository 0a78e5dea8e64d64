/- LinesPart's walk. -/
import Derived.Test.YtemdaafnmjenmaaG1
import Derived.Test.YtemdaafnmjenmaaF1
namespace Go.Proofs.Ytemdaafnmjenmaa
open Go.RowKit

theorem asked_len (key : Int) (ch : Nat → Nat) (D : List Ent) : (part (fch key ch) ⟨false, []⟩ D).2.2.asked.length ≤ D.length := by
  have := asked_le key ch ⟨false, []⟩ D
  simpa using this
theorem chl_zero {cl : List Nat} {i : Nat} (h : chl (ints cl) i = 0) : i < cl.length ∧ cl[i]! % 4 = 0 := by
  unfold chl at h
  rw [ints_len] at h
  split at h
  · rename_i hi
    rw [getElem!_pos (ints cl) i (by rw [ints_len]; exact hi)] at h
    refine ⟨hi, ?_⟩
    rw [getElem!_pos cl i hi]
    simpa [ints] using h
  · omega
theorem chl_nonzero {cl : List Nat} {i : Nat} (h : chl (ints cl) i ≠ 0) (hi : i < cl.length) : cl[i]! % 4 ≠ 0 := by
  unfold chl at h
  rw [ints_len, if_pos hi, getElem!_pos (ints cl) i (by rw [ints_len]; exact hi)] at h
  rw [getElem!_pos cl i hi]
  simpa [ints] using h
theorem drN {w w' : World} {B : Nat} (k : Nat) (h : Below B w w') : Below B w (w'.drewN k) := ⟨h.os, h.tape, h.output, h.size, h.block⟩
set_option maxHeartbeats 4000000 in
set_option maxRecDepth 100000 in
theorem law_part (A C : Option Addr) (n c nb cb : Nat) (D : List Ent) (key : Int) (cl : List Nat) (hn : n = D.length) (hnb : nb = cl.length) (hn2 : n ≤ 9223372036854775807) (hnb2 : nb ≤ 9223372036854775807) (hby : ∀ x ∈ cl, x < 256) (w : World) (hin : Rd w w.heap.size A (flat D)) (hinc : Rd w w.heap.size C (cl.map bv)) :
    Calls Try.prog 5 #[.slice A n c, .int .u32 key, .slice C nb cb] w fun e w' => e = .returned (.bool true) ∧ Below w.heap.size w w' := by
  have hl := lives_any
  have HL := Lib.hid hl; have HIN := Lib.hid hin; have HINC := Lib.hid hinc; have HBY := Lib.hid hby; have HN := Lib.hid hn; have HNB := Lib.hid hnb
  clear hl hin hinc hby
  by_cases h100 : n ≤ 100
  · by_cases h200 : nb ≤ 200
    · have hrow := row_made cb HINC.out (Nat.le_refl _)
      have hb := below1 w (.cells #[.slice C cl.length cb, .slice none 0 0] 57)
      have hch := chosen_row (A := A) (D := D) c cb key hrow (by omega) HBY.out (HIN.out.below hb (Nat.le_refl _)) (Nat.le_refl _) (by omega)
      unfold Tells3 at hch
      rw [← hnb, ← hn] at hch
      rw [← hnb] at hb
      have hlt := part_len (fch key (chl (ints cl))) ⟨false, []⟩ D
      have hal := asked_len key (chl (ints cl)) D
      rw [← hn] at hlt hal
      have hway := fun k (hk : k < n) => way (key := key) (ch := chl (ints cl)) (D := D) (k := k) (hn ▸ hk)
      obtain ⟨Y, hY⟩ : ∃ Y, Y = part (fch key (chl (ints cl))) ⟨false, []⟩ D := ⟨_, rfl⟩
      simp only [← hY] at hway hlt hal hch
      have hYn : part (fch key (chl (ints cl))) ⟨false, []⟩ (D.take n) = Y := by rw [hn, List.take_length, hY]
      have HCH := Lib.hid hch; have HB0 := Lib.hid hb; have HWAY := Lib.hid hway; have HYN := Lib.hid hYn
      obtain ⟨TT, LL, sY⟩ := Y
      obtain ⟨stY, AA⟩ := sY
      dsimp only at hlt hal HCH
      have hT : TT.length ≤ 100 := by omega
      have hLn : LL.length ≤ 100 := by omega
      have hA : AA.length ≤ 100 := by omega
      have hsum : (TT.length : Int) + (LL.length : Int) = (n : Int) := by omega
      clear hrow hb hch hway hY hYn hlt hal hn hnb
      go_enter Try.func5, Try.ntmps5
      go_wp2_with fail
      refine HCH.out.mono ?_
      rintro e w4 ⟨A1, A2, s, rfl, htw, hrow, ht⟩
      have hsz : w.heap.size < w4.heap.size := by have := ht.size; simp at this; omega
      have hl4 := (HIN.out.below HB0.out (Nat.le_refl _)).kept ht HB0.out.size (fun k hk (e : k = w.heap.size) => by omega)
      have hc4 := (HINC.out.below HB0.out (Nat.le_refl _)).kept ht HB0.out.size (fun k hk (e : k = w.heap.size) => by omega)
      have ht4 := htw.r1.rd
      have hn4 := htw.r2.rd
      obtain ⟨As, capA, rfl, hcA, hcA2⟩ := hrow.own.shape
      have ha4 := hrow.own.rd
      have hb4 : Below w.heap.size w w4 := HB0.out.trans (ht.below HB0.out.size (fun k hk (e : k = w.heap.size) => by omega))
      have HL4 := Lib.hid hl4; have HC4 := Lib.hid hc4; have HT4 := Lib.hid ht4; have HN4 := Lib.hid hn4; have HA4 := Lib.hid ha4; have HB4 := Lib.hid hb4; have HR4 := Lib.hid hrow.cell; have HSZ := Lib.hid hsz
      have hne := fun W e => neq36 e e W
      simp only [decide_true, Bool.not_true] at hne
      clear hl4 hc4 ht4 hn4 ha4 hb4 hrow htw ht
      go_wp2_with fail
      clear hsum
      go_loopg [10, 11, 12, 13, 14] n (fun q s10 s11 s12 s13 s14 wx => ∃ k : Nat, k ≤ n ∧ q = n - k ∧ s13 = .int .i64 (k : Int) ∧ s10 = .int .i64 ((part (fch key (chl (ints cl))) ⟨false, []⟩ (D.take k)).1.length : Nat) ∧ s11 = .int .i64 ((part (fch key (chl (ints cl))) ⟨false, []⟩ (D.take k)).2.1.length : Nat) ∧ s12 = .int .i64 ((part (fch key (chl (ints cl))) ⟨false, []⟩ (D.take k)).2.2.asked.length : Nat) ∧ Below w4.heap.size w4 wx)
      case atStart => exact ⟨0, by omega, rfl, rfl, rfl, rfl, rfl, Below.refl _ _⟩
      case round =>
        obtain ⟨k, hk, rfl, rfl, rfl, rfl, rfl, hb⟩ := hrel
        have HB := Lib.hid hb
        have hsx : w4.heap.size ≤ wr.heap.size := hb.size
        have r1 : wr.cell? ⟨w.heap.size, 1, none⟩ = some (.slice As AA.length capA) := (hb.cell (p := ⟨w.heap.size, 1, none⟩) hsz).trans (cell_row HR4.out 1)
        clear hb
        by_cases hkn : k < n
        · obtain ⟨lb', lo, rfl, hlb, c0, c1, c2⟩ := (HL4.out.below HB.out (by omega)).ent (i := k) (by have := HN.out; omega)
          have hw := HWAY.out k hkn
          have hle := part_len (fch key (chl (ints cl))) ⟨false, []⟩ (D.take k)
          have hal := asked_len key (chl (ints cl)) (D.take k)
          rw [List.length_take] at hle hal
          obtain ⟨y, hy⟩ : ∃ y, y = part (fch key (chl (ints cl))) ⟨false, []⟩ (D.take (k + 1)) := ⟨_, rfl⟩
          rw [← hy] at hw
          have HY := Lib.hid hy
          generalize part (fch key (chl (ints cl))) ⟨false, []⟩ (D.take k) = x at *
          generalize D[k]! = d at *
          obtain ⟨tk, lk, sk⟩ := x
          obtain ⟨stk, ak⟩ := sk
          dsimp only at hw hle hal
          have hmin := Nat.min_le_left k D.length
          have htk : tk.length ≤ 100 := by omega
          have hlk : lk.length ≤ 100 := by omega
          have hak : ak.length ≤ 100 := by omega
          clear hy hle hal hmin
          rcases hw with ⟨h1, h2, h3, h4, h5, h6⟩ | ⟨h1, h0, h2, h3, h4, h5, h6⟩ | ⟨h1, h0, h7, hc, h2, h3, h4, h5, h6⟩ | ⟨h1, h0, h7, hc, h2, h3, h4, h5, h6⟩
          · dsimp only at h5 h6
            obtain ⟨g2, o2, hA2, _, d0, d1, d2⟩ := (HN4.out.below HB.out (Nat.le_refl _)).ent (i := lk.length) h5
            subst hA2
            rw [h6] at d0 d1 d2
            have hg : decide (LL.length ≤ lk.length) = false := decide_eq_false (by omega)
            have H2 := Lib.hid h2; have H3 := Lib.hid h3; have H4 := Lib.hid h4
            clear h2 h3 h4 h6
            go_wp2_with fail
            go_quiet (fail)
            go_wp2_with fail
            go_roundg (n - (k + 1))
            case measure => omega
            case rel => exact ⟨k + 1, by omega, rfl, by go_num, by rw [← HY.out, H2.out], by rw [← HY.out, H3.out]; simp, by rw [← HY.out, H4.out], HB.out.trans ((Below.refl wr.heap.size wr |> drN _).mono hsx)⟩
          · dsimp only at h5 h6 h0
            subst h1
            have hh : ¬ ((ak.length : Int) < (AA.length : Int)) := by omega
            clear h0
            obtain ⟨g2, o2, hA2, _, d0, d1, d2⟩ := (HN4.out.below HB.out (Nat.le_refl _)).ent (i := lk.length) h5
            subst hA2
            rw [h6] at d0 d1 d2
            have hg : decide (LL.length ≤ lk.length) = false := decide_eq_false (by omega)
            have H2 := Lib.hid h2; have H3 := Lib.hid h3; have H4 := Lib.hid h4
            clear h2 h3 h4 h6
            go_wp2_with fail
            go_quiet (fail)
            go_wp2_with fail
            go_roundg (n - (k + 1))
            case measure => omega
            case rel => exact ⟨k + 1, by omega, rfl, by go_num, by rw [← HY.out, H2.out], by rw [← HY.out, H3.out]; simp, by rw [← HY.out, H4.out], HB.out.trans ((Below.refl wr.heap.size wr |> drN _).mono hsx)⟩
          · dsimp only at h5 h6 h0 h7
            subst h1
            obtain ⟨hcl, hcz⟩ := chl_zero hc
            clear hc
            obtain ⟨ga, oa, hAs, _, a0⟩ := rd_uz (HA4.out.below HB.out (Nat.le_refl _)) h0
            subst hAs
            rw [h7] at a0
            clear h7
            obtain ⟨gc, oc, hC, _, x0⟩ := rd_bv (HC4.out.below HB.out (by omega)) hcl
            subst hC
            have hnb : ak.length < nb := by have := HNB.out; omega
            have e4 : (((cl[ak.length]! : Nat) : Int) % 4 == 0) = true := by rw [beq_iff_eq]; omega
            generalize cl[ak.length]! = x at *
            clear hcz hcl
            obtain ⟨g2, o2, hA1, _, d0, d1, d2⟩ := (HT4.out.below HB.out (Nat.le_refl _)).ent (i := tk.length) h5
            subst hA1
            rw [h6] at d0 d1 d2
            have hg : decide (TT.length ≤ tk.length) = false := decide_eq_false (by omega)
            have H2 := Lib.hid h2; have H3 := Lib.hid h3; have H4 := Lib.hid h4
            clear h2 h3 h4 h6
            go_wp2_with fail
            go_quiet (fail)
            go_wp2_with fail
            go_quiet (fail)
            go_wp2_with fail
            go_roundg (n - (k + 1))
            case measure => omega
            case rel => exact ⟨k + 1, by omega, rfl, by go_num, by rw [← HY.out, H2.out]; simp, by rw [← HY.out, H3.out], by rw [← HY.out, H4.out]; simp, HB.out.trans ((Below.refl wr.heap.size wr |> drN _).mono hsx)⟩
          · dsimp only at h5 h6 h0 h7
            subst h1
            by_cases hcl : ak.length < cl.length
            · have hcz := chl_nonzero hc hcl
              clear hc
              obtain ⟨ga, oa, hAs, _, a0⟩ := rd_uz (HA4.out.below HB.out (Nat.le_refl _)) h0
              subst hAs
              rw [h7] at a0
              clear h7
              obtain ⟨gc, oc, hC, _, x0⟩ := rd_bv (HC4.out.below HB.out (by omega)) hcl
              subst hC
              have hnb : ak.length < nb := by have := HNB.out; omega
              have e4 : (((cl[ak.length]! : Nat) : Int) % 4 == 0) = false := by rw [beq_eq_false_iff_ne]; omega
              generalize cl[ak.length]! = x at *
              clear hcz hcl
              obtain ⟨g2, o2, hA2, _, d0, d1, d2⟩ := (HN4.out.below HB.out (Nat.le_refl _)).ent (i := lk.length) h5
              subst hA2
              rw [h6] at d0 d1 d2
              have hg : decide (LL.length ≤ lk.length) = false := decide_eq_false (by omega)
              have H2 := Lib.hid h2; have H3 := Lib.hid h3; have H4 := Lib.hid h4
              clear h2 h3 h4 h6
              go_wp2_with fail
              go_quiet (fail)
              go_wp2_with fail
              go_quiet (fail)
              go_wp2_with fail
              go_roundg (n - (k + 1))
              case measure => omega
              case rel => exact ⟨k + 1, by omega, rfl, by go_num, by rw [← HY.out, H2.out], by rw [← HY.out, H3.out]; simp, by rw [← HY.out, H4.out]; simp, HB.out.trans ((Below.refl wr.heap.size wr |> drN _).mono hsx)⟩
            · have hnb : ¬ (ak.length < nb) := by have := HNB.out; omega
              clear hc hcl
              obtain ⟨ga, oa, hAs, _, a0⟩ := rd_uz (HA4.out.below HB.out (Nat.le_refl _)) h0
              subst hAs
              rw [h7] at a0
              clear h7
              obtain ⟨g2, o2, hA2, _, d0, d1, d2⟩ := (HN4.out.below HB.out (Nat.le_refl _)).ent (i := lk.length) h5
              subst hA2
              rw [h6] at d0 d1 d2
              have hg : decide (LL.length ≤ lk.length) = false := decide_eq_false (by omega)
              have H2 := Lib.hid h2; have H3 := Lib.hid h3; have H4 := Lib.hid h4
              clear h2 h3 h4 h6
              go_wp2_with fail
              go_quiet (fail)
              go_wp2_with fail
              go_quiet (fail)
              go_wp2_with fail
              go_roundg (n - (k + 1))
              case measure => omega
              case rel => exact ⟨k + 1, by omega, rfl, by go_num, by rw [← HY.out, H2.out], by rw [← HY.out, H3.out]; simp, by rw [← HY.out, H4.out]; simp, HB.out.trans ((Below.refl wr.heap.size wr |> drN _).mono hsx)⟩
        · obtain rfl : k = n := by omega
          rw [HYN.out]
          go_wp2_with fail
          refine (HL.out _).mono ?_
          rintro e w9 ⟨rfl, hb9⟩
          have HB9 := Lib.hid ((HB4.out.trans (HB.out.mono HB4.out.size)).trans (hb9.mono (Nat.le_trans HB4.out.size hsx)))
          clear hb9
          go_wp2_with fail
          go_ret
          exact ⟨rfl, HB9.out⟩
    · go_enter Try.func5, Try.ntmps5
      go_wp2_with fail
      refine (HL.out _).mono ?_
      rintro e w5 ⟨rfl, hb⟩
      have HB3 := Lib.hid hb
      clear hb
      go_wp2_with fail
      go_ret
      exact ⟨rfl, HB3.out⟩
  · go_enter Try.func5, Try.ntmps5
    go_wp2_with fail
    refine (HL.out _).mono ?_
    rintro e w5 ⟨rfl, hb⟩
    have HB3 := Lib.hid hb
    clear hb
    go_wp2_with fail
    go_ret
    exact ⟨rfl, HB3.out⟩
end Go.Proofs.Ytemdaafnmjenmaa
