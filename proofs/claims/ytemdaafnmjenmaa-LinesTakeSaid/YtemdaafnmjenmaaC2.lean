/- Two lists, one behind the other; Moved. -/
import Derived.Test.YtemdaafnmjenmaaC1
namespace Go.Proofs.Ytemdaafnmjenmaa
open Go.RowKit

/-- A list is told, in new memory, with no room behind. -/
def Tells (w : World) (D : List Ent) (e : Ending) (w' : World) : Prop := ∃ A, e = .returned (.slice A D.length D.length) ∧ RowE w' w.heap.size (.slice A D.length D.length) D ∧ Below w.heap.size w w'
theorem joined_any {w : World} {b1 b2 : Nat} {A A2 : Option Addr} {D E : List Ent} (c c2 : Nat) (hr1 : Rd w b1 A (flat D)) (hr2 : Rd w b2 A2 (flat E)) (hb1 : b1 ≤ w.heap.size) (hb2 : b2 ≤ w.heap.size) (hD : D.length ≤ 2000) (hE : E.length ≤ 2000) :
    Calls Try.prog 31 #[.slice A D.length c, .slice A2 E.length c2] w (Tells w (D ++ E)) := by
  have hb := below1 w (.cells #[.slice A D.length c, .slice A2 E.length c2] 22)
  have hcon := concat_any (heap_alloc_new w (.cells #[.slice A D.length c, .slice A2 E.length c2] 22)) (hr1.below hb hb1) (hr2.below hb hb2) (Nat.le_trans hb1 hb.size) (Nat.le_trans hb2 hb.size) hD hE
  have HC := Lib.hid hcon; have HB := Lib.hid hb
  clear hcon hb hr1 hr2
  have hcl := fun A cap W h1 h2 => clip_any A (D ++ E).length cap W h1 h2
  have HCL := Lib.hid hcl
  clear hcl
  generalize hF : D ++ E = F at *
  clear hF
  go_enter Try.func31, Try.ntmps31
  go_wp2_with fail
  refine HC.out.mono ?_
  rintro e w1 ⟨s, rfl, hr, hb⟩
  obtain ⟨A3, cap3, rfl, h3, h4⟩ := hr.shape
  have HR := Lib.hid hr; have HB1 := Lib.hid (HB.out.trans (hb.mono HB.out.size))
  clear hr hb
  go_wp2_with fail
  refine (HCL.out A3 cap3 _ h3 h4).mono ?_
  rintro e w2 ⟨rfl, rfl⟩
  go_wp2_with fail
  go_ret
  exact ⟨_, rfl, HR.out.clip.base HB.out.size, HB1.out⟩
theorem moved_prefix {D M : List Ent} : flat (D ++ M) = flat D ++ flat M := flat_app D M
theorem mid_get (X Z : List Ent) (y : Ent) : (X ++ ([y] ++ Z))[X.length]! = y := by
  rw [getElem!_pos _ _ (by simp), List.getElem_append_right (Nat.le_refl _)]
  simp
/-- The key of one is turned. -/
theorem lies_key {w : World} {g o : Nat} {D M : List Ent} {key : Int} {k : Nat} (hk : k < M.length) (h : Lies w g o (flat (D ++ (M.take k).map (re key) ++ M.drop k))) (hs : (w.cell? ⟨g, o + (D.length + k) * 3 + 1, none⟩).isSome = true) :
    Lies (w.setCell ⟨g, o + (D.length + k) * 3 + 1, none⟩ (.int .u32 key)) g o (flat (D ++ (M.take (k + 1)).map (re key) ++ M.drop (k + 1))) := by
  obtain ⟨v, hv⟩ := Option.isSome_iff_exists.1 hs
  have e1 : M.drop k = M[k]! :: M.drop (k + 1) := by rw [getElem!_pos M k hk]; exact (List.drop_eq_getElem_cons hk)
  have e2 : (M.take (k + 1)).map (re key) = (M.take k).map (re key) ++ [re key M[k]!] := by rw [take_snoc hk]; simp
  have hl : (D ++ (M.take k).map (re key)).length = D.length + k := by simp; omega
  generalize M[k]! = d at *
  intro j u e
  by_cases hj : j = (D.length + k) * 3 + 1
  · subst hj
    have : u = .int .u32 key := by
      have hg := flat_get (D ++ (M.take (k + 1)).map (re key) ++ M.drop (k + 1)) (D.length + k) (by simp; omega)
      have e3 : (D ++ (M.take (k + 1)).map (re key) ++ M.drop (k + 1))[D.length + k]! = re key d := by
        rw [e2, show D ++ ((M.take k).map (re key) ++ [re key d]) ++ M.drop (k + 1) = (D ++ (M.take k).map (re key)) ++ ([re key d] ++ M.drop (k + 1)) by simp only [List.append_assoc], ← hl]
        exact mid_get _ _ _
      rw [e3] at hg
      have := hg.2.1
      rw [e] at this
      simpa [re] using this
    subst this
    rw [← Nat.add_assoc]
    exact World.cell?_setCell_same _ _ _ hv
  · rw [World.cell?_setCell_other _ _ _ _ (by simp; (try omega))]
    refine h j u ?_
    rw [e1]
    rw [e2] at e
    have f1 : flat (D ++ (M.take k).map (re key) ++ d :: M.drop (k + 1)) = flat (D ++ (M.take k).map (re key)) ++ (d.cs ++ flat (M.drop (k + 1))) := by rw [flat_app]; rfl
    have f2 : flat (D ++ ((M.take k).map (re key) ++ [re key d]) ++ M.drop (k + 1)) = flat (D ++ (M.take k).map (re key)) ++ ((re key d).cs ++ flat (M.drop (k + 1))) := by
      rw [← List.append_assoc, List.append_assoc, flat_app]; rfl
    rw [f1]
    rw [f2] at e
    have hfl := flat_len (D ++ (M.take k).map (re key))
    rw [hl] at hfl
    by_cases h1 : j < (D.length + k) * 3
    · rw [List.getElem?_append_left (by omega)] at e ⊢
      exact e
    · rw [List.getElem?_append_right (by omega)] at e ⊢
      rw [hfl] at e ⊢
      obtain ⟨i, rfl⟩ : ∃ i, j = (D.length + k) * 3 + i := ⟨j - (D.length + k) * 3, by omega⟩
      rw [Nat.add_sub_cancel_left] at e ⊢
      match i, e with
      | 0, e => exact e
      | 1, e => exact absurd rfl hj
      | 2, e => exact e
      | i + 3, e => exact e
set_option maxHeartbeats 1000000 in
theorem moved_any {w : World} {b1 b2 : Nat} {A A2 : Option Addr} {D M : List Ent} (c c2 : Nat) (key : Int) (hr1 : Rd w b1 A (flat D)) (hr2 : Rd w b2 A2 (flat M)) (hb1 : b1 ≤ w.heap.size) (hb2 : b2 ≤ w.heap.size) (hD : D.length ≤ 2000) (hM : M.length ≤ 2000) :
    Calls Try.prog 26 #[.slice A D.length c, .slice A2 M.length c2, .int .u32 key] w (Tells w (movedL D M key)) := by
  have hj := joined_any c c2 hr1 hr2 hb1 hb2 hD hM
  have HJ := Lib.hid hj
  clear hj hr1 hr2
  obtain ⟨n, hn⟩ : ∃ n, n = (D ++ M).length := ⟨_, rfl⟩
  have hn' : n = D.length + M.length := by rw [hn, List.length_append]
  unfold Tells at HJ ⊢
  rw [← hn] at HJ
  rw [moved_len, ← hn']
  have HN := Lib.hid hn'
  have hn4 : n ≤ 4000 := by omega
  have hd4 : D.length ≤ n := by omega
  clear hn hn'
  go_enter Try.func26, Try.ntmps26
  go_wp2_with fail
  refine HJ.out.mono ?_
  rintro e w1 ⟨A1, rfl, hr, hb⟩
  have HR := Lib.hid hr; have HB := Lib.hid hb
  clear hr hb
  go_wp2_with fail
  go_loopg [8] (n - D.length) (fun q s8 wx => ∃ k : Nat, D.length + k ≤ n ∧ q = n - (D.length + k) ∧ s8 = .int .i64 ((D.length + k : Nat) : Int) ∧ Below w.heap.size w wx ∧ Row wx w.heap.size 3 (.slice A1 n n) n (flat (D ++ (M.take k).map (re key) ++ M.drop k)))
  case atStart =>
    have h2 : Row w1 w.heap.size 3 (.slice A1 n n) (D ++ M).length (flat (D ++ M)) := HR.out
    rw [List.length_append, ← HN.out] at h2
    exact ⟨0, by omega, by omega, rfl, HB.out, by simpa using h2⟩
  case round =>
    obtain ⟨k, hk, rfl, rfl, hb, hrow⟩ := hrel
    have HB2 := Lib.hid hb; have HROW := Lib.hid hrow
    by_cases hkn : D.length + k < n
    · obtain ⟨A', cap', e, h0, h1, h2, h3, h4⟩ := hrow
      cases e
      cases A1 with
      | none => have := h3 rfl; omega
      | some ad =>
        obtain ⟨g, o, rfl, hg, hlt, hl, hc⟩ := h4 ad rfl
        have hc1 := hc ((D.length + k) * 3 + 1) (by omega)
        rw [← Nat.add_assoc] at hc1
        obtain ⟨hs1, hf1⟩ := hc1
        have hnew := lies_key (by have := HN.out; omega) hl hs1
        have HNEW := Lib.hid hnew
        obtain ⟨v1, hv1⟩ := Option.isSome_iff_exists.1 hs1
        obtain ⟨m, hm⟩ : ∃ m, m = D.length + k := ⟨_, rfl⟩
        rw [← hm] at hv1 hf1 hkn ⊢
        have HM := Lib.hid hm
        clear hm h0 h1 h2 h3 h4 hl hc hs1 hnew hb hk
        go_wp2_with fail
        go_roundg (n - (m + 1))
        case measure => have := HM.out; omega
        case rel =>
          have t : Turns (fun k => k = g) wr (wr.setCell ⟨g, o + m * 3 + 1, none⟩ (.int .u32 key)) := (Turns.refl _ _).setCell _ _ rfl
          have hsz : (wr.setCell ⟨g, o + m * 3 + 1, none⟩ (.int .u32 key)).heap.size = wr.heap.size := by simp [World.setCell]
          refine ⟨k + 1, by have := HM.out; omega, by have := HM.out; omega, by have := HM.out; go_num, HB2.out.trans (t.below HB2.out.size (fun k hk e => by omega)), ?_⟩
          obtain ⟨A', cap', e, h0, h1, h2, h3, h4⟩ := HROW.out
          cases e
          obtain ⟨g', o', e', hg', hlt', hl', hc'⟩ := h4 _ rfl
          cases e'
          have hk' := HM.out
          refine ⟨_, _, rfl, ?_, h1, h2, h3, fun ad e => ?_⟩
          · rw [flat_len, List.length_append, List.length_append, List.length_map, List.length_take, List.length_drop]
            have := HN.out
            omega
          · cases e
            refine ⟨g, o, rfl, hg, by rw [hsz]; exact hlt, ?_, fun j hj => ?_⟩
            · rw [hk']; exact HNEW.out
            · refine ⟨?_, (World.frozen?_setCell _ _ _ _).trans (hc' j hj).2⟩
              have := some_setCells g [.int .u32 key] (o + m * 3 + 1) wr ⟨g, o + j, none⟩ (hc' j hj).1
              exact this
    · obtain rfl : D.length + k = n := by omega
      clear hb hrow
      go_wp2_with fail
      go_ret
      refine ⟨_, rfl, ?_, HB2.out⟩
      have := HROW.out
      obtain rfl : k = M.length := by have := HN.out; omega
      rw [List.take_length, List.drop_length, List.append_nil] at this
      show Row wr w.heap.size 3 _ (movedL D M key).length _
      rw [moved_len]
      exact this
end Go.Proofs.Ytemdaafnmjenmaa
