/- begun and emptied. -/
import Derived.Test.YtaajgnpfndljoaaGreatS10T3
set_option linter.unusedVariables false
set_option linter.unusedSimpArgs false
namespace Go.Proofs.YtaajgnpfndljoaaGreat.S10
open Go.Proofs.YtaajgnpfndljoaaGreat
open Go.RowKit

set_option maxHeartbeats 1000000 in
theorem emptied_any {w : World} {g o c N : Nat} {L : List Bk} {V : Nat → Value} (hr : Row w 0 3 (.slice (some ⟨g, o, none⟩) N c) N (bflat L V)) (hL : L.length = N) (hV : ∀ i, i < N → ∃ A' m c', V i = .slice A' m c') (hn : N ≤ 65536) :
    Calls Tryz.prog 106 #[.slice (some ⟨g, o, none⟩) N c] w fun e w' => ∃ g2, e = .returned (.slice (some ⟨g2, 0, none⟩) N N) ∧ w.heap.size ≤ g2 ∧ g2 < w'.heap.size ∧ Lies w' g2 0 ((List.range N).map V) ∧ Row w' 0 3 (.slice (some ⟨g, o, none⟩) N c) N (bflat (hollow L) (fun _ => nilS)) ∧ Turns (fun x => x = g) w w' := by
  have HR := Lib.hid hr; have HLL := Lib.hid hL; have HV := Lib.hid hV
  have hc := hr.shape
  obtain ⟨_, _, e, hNc, hc9⟩ := hc
  cases e
  clear hr hL hV
  have hmk := make_any N hn
  go_enter Tryz.func106, Tryz.ntmps106
  go_wp2_with fail
  have hnew := heap_alloc_new w (.cells (List.replicate N nilS).toArray 84)
  have hbl := below1 w (.cells (List.replicate N nilS).toArray 84)
  have hr0 := row_made _ w.heap.size _ N 1 84 _ hnew (by rw [List.length_replicate]; omega) (Nat.le_refl _) hn
  have hglt := (HR.out.lt g rfl).2
  have hrt := HR.out.new hbl
  obtain ⟨g2, hg⟩ : ∃ g2, g2 = w.heap.size := ⟨_, rfl⟩
  rw [← hg] at hr0 ⊢
  have hgg : g ≠ g2 := by omega
  have hgg' : g2 ≠ g := by omega
  have hee : (List.replicate N nilS).toArray = Array.replicate N nilS := by simp
  rw [hee] at hbl hrt hr0
  clear hnew hee
  generalize w.alloc (.cells (Array.replicate N (Value.slice none 0 0)) 84) = w0 at *
  have HBL := Lib.hid hbl; have HR0 := Lib.hid hr0; have HG := Lib.hid hg; have HRT := Lib.hid hrt
  clear hmk hbl hr0 hg hrt hglt
  go_loopg [4, 10] N (fun q s4 s10 wx => ∃ (k : Nat) (L' : List Bk) (V' : Nat → Value) (cs : List Value), k ≤ N ∧ q = N - k ∧ s10 = .int .i64 (k : Int) ∧ L'.length = N ∧ (∀ j, j < N → L'[j]! = (if j < k then { L[j]! with q := [] } else L[j]!) ∧ V' j = if j < k then nilS else V j) ∧
    Row wx 0 3 (.slice (some ⟨g, o, none⟩) N c) N (bflat L' V') ∧ Row wx g2 1 (.slice (some ⟨g2, 0, none⟩) N N) N cs ∧ (∀ j, j < k → cs[j]? = some (V j)) ∧ Turns (fun x => x = g) w wx)
  case atStart => exact ⟨0, L, V, _, by omega, rfl, rfl, HLL.out, fun j hj => ⟨by rw [if_neg (by omega)], by rw [if_neg (by omega)]⟩, HRT.out, HR0.out, fun j hj => by omega, Turns.of_below HBL.out⟩
  case round =>
    obtain ⟨k, L', V', cs, hk, rfl, rfl, hL, hdone, hrow, hrow2, hcs, ht⟩ := hrel
    have HL := Lib.hid hL; have HD := Lib.hid hdone; have HROW := Lib.hid hrow; have HROW2 := Lib.hid hrow2; have HCS := Lib.hid hcs; have HT := Lib.hid ht
    clear hL hdone hrow hrow2 hcs ht
    by_cases hkn : k < N
    · obtain ⟨A', m, c', hv⟩ := HV.out k hkn
      obtain ⟨u, hu, c2, f2⟩ := HROW.out.ok (j := k * 3 + 2) (by omega)
      have hg2 := (bflat_get L' V' (i := k) (by have := HL.out; omega)).2.2
      rw [hu] at hg2
      have hvk := (HD.out k hkn).2
      rw [if_neg (by omega), hv] at hvk
      rw [hvk] at hg2
      cases hg2
      obtain ⟨u', hu', d2, e2⟩ := HROW2.out.ok (j := k) (by omega)
      rw [Nat.zero_add] at d2 e2
      rw [← Nat.add_assoc] at c2 f2
      have HVV := Lib.hid hv
      clear hu hvk hu' hv
      go_wp2_with fail
      go_roundg (N - (k + 1))
      case measure => omega
      case rel =>
        have t1 : Turns (fun x => x = g2) wr (wr.setCell ⟨g2, k, none⟩ (.slice A' m c')) := (Turns.refl (fun x => x = g2) wr).setCell ⟨g2, k, none⟩ _ rfl
        have t2 : Turns (fun x => x = g) (wr.setCell ⟨g2, k, none⟩ (.slice A' m c')) ((wr.setCell ⟨g2, k, none⟩ (.slice A' m c')).setCell ⟨g, o + k * 3 + 2, none⟩ nilS) := (Turns.refl (fun x => x = g) _).setCell ⟨g, o + k * 3 + 2, none⟩ _ rfl
        have r1 := (HROW.out.keep t1 (fun x e e2 => hgg (by simp [Value.ownBlock] at e; omega))).setAt (i := k * 3 + 2) (by omega) nilS
        have r2 := (HROW2.out.setAt (i := k) (by omega) (.slice A' m c'))
        rw [Nat.zero_add] at r2
        have r3 := r2.keep t2 (fun x e e2 => hgg (by simp [Value.ownBlock] at e; omega))
        have hL := HL.out
        rw [bflat_q _ _ (by omega) _ [], ← Nat.add_assoc] at r1
        refine ⟨k + 1, _, _, _, by omega, rfl, by go_num, ?_, fun j hj => ?_, r1, r3, fun j hj => ?_, ?_⟩
        · simp only [List.length_set]; exact hL
        · obtain ⟨d1, d2⟩ := HD.out j hj
          rw [get_set (by omega)]
          by_cases e : j = k
          · subst e
            rw [if_pos rfl, upd_same, if_pos (by omega), if_pos (by omega), d1, if_neg (by omega)]
            exact ⟨rfl, rfl⟩
          · rw [if_neg e, upd_ne _ _ e, d1, d2]
            by_cases e3 : j < k
            · rw [if_pos e3, if_pos e3, if_pos (by omega), if_pos (by omega)]
              exact ⟨rfl, rfl⟩
            · rw [if_neg e3, if_neg e3, if_neg (by omega), if_neg (by omega)]
              exact ⟨rfl, rfl⟩
        · have hlc := HROW2.out.len
          by_cases e : j = k
          · subst e
            rw [List.getElem?_set_self (by omega), HVV.out]
          · rw [List.getElem?_set_ne (fun e' => e e'.symm)]
            exact HCS.out j (by omega)
        · refine (HT.out.trans t1 (fun x hx e => ?_)).trans t2 (fun x hx e => e)
          have := HG.out; omega
    · obtain rfl : k = N := by omega
      go_wp2_with fail
      go_ret
      have hlt := (HROW2.out.lt g2 rfl).2
      have hL := HL.out
      have hcl := HROW2.out.len
      have hx : bflat L' V' = bflat (hollow L) (fun _ => nilS) := by
        refine bflat_ext (L := L) (V := V) (by rw [bflat_len]; simp [hollow, hL, HLL.out]) fun j hj => ?_
        have hj3 : j < k * 3 := by simpa [hollow, HLL.out] using hj
        rw [bflat_at _ _ (by omega)]
        unfold bcell
        obtain ⟨h1, h2⟩ := HD.out (j / 3) (by omega)
        rw [if_pos (by omega)] at h1 h2
        have h3 : (hollow L)[j / 3]! = { L[j / 3]! with q := [] } := by
          have hl := HLL.out
          rw [getElem!_pos (hollow L) (j / 3) (by simp [hollow]; omega), getElem!_pos L (j / 3) (by omega)]
          simp [hollow]
        rw [h1, h2, h3]
      rw [← hx]
      refine ⟨g2, rfl, by have := HG.out; omega, hlt, ?_, HROW.out, HT.out⟩
      obtain ⟨A, cap, e, h0, h1, h2, h3, h4⟩ := HROW2.out
      cases e
      obtain ⟨g', o', e, hb, hlt', hl, hc⟩ := h4 _ rfl
      cases e
      intro j x hj
      have hjk : j < k := by
        have := (List.getElem?_eq_some_iff.1 hj).1
        simpa using this
      have : x = V j := by simpa [hjk] using hj.symm
      subst this
      exact hl j _ (HCS.out j hjk)
end Go.Proofs.YtaajgnpfndljoaaGreat.S10
