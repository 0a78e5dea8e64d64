/- Texts of this seat, one behind the other. -/
import Derived.Test.YtpmafdggbeppcaaGreatDoorMLawVoid1821
import Derived.Lib.AppendZerosOnto
import Derived.Lib.Walk
set_option linter.unusedVariables false
set_option linter.unusedSimpArgs false
namespace Go.Proofs.YtpmafdggbeppcaaGreatDoor.S10
set_option maxRecDepth 100000
set_option maxHeartbeats 16000000
open Go.Proofs.YtpmafdggbeppcaaGreatDoor
open Go.RowKit
theorem grow_zero (w : World) : Calls Tryz.prog 189 #[.slice none 0 0, .int .i64 ((0 : Nat) : Int)] w fun e w' => ∃ s, e = .returned s ∧ Row w' w.heap.size 3 s 0 [] ∧ Below w.heap.size w w' := by
  go_enter Tryz.func189, Tryz.ntmps189
  go_wp2
  go_ret
  exact ⟨_, rfl, row_nil _ _ _, Below.refl _ _⟩
theorem row_zeros (w : World) (cc : Nat) (h : cc ≤ maxLen) (k : Nat) (hk : k ≤ cc) : Row (w.alloc (.cells (Builtin.zeroCells #[Value.int .i64 0, .int .u32 0, .int .u64 0] k ++ Builtin.zeroCells #[Value.int .i64 0, .int .u32 0, .int .u64 0] (cc - k)) 39)).drew w.heap.size 3 (.slice (some ⟨w.heap.size, 0, none⟩) 0 cc) 0 [] := by
  refine ⟨_, cc, rfl, by simp, Nat.zero_le _, h, (fun e => by cases e), fun ad e => ?_⟩
  cases e
  have hnew := heap_alloc_new w (.cells (Builtin.zeroCells #[Value.int .i64 0, .int .u32 0, .int .u64 0] k ++ Builtin.zeroCells #[Value.int .i64 0, .int .u32 0, .int .u64 0] (cc - k)) 39)
  refine ⟨w.heap.size, 0, rfl, Nat.le_refl _, by simp, fun j u e => by simp at e, fun j hj => ⟨?_, froz_row (w := (w.alloc _).drew) hnew _⟩⟩
  rw [cell_row (w := (w.alloc _).drew) hnew, Nat.zero_add]
  have hs : (Builtin.zeroCells #[Value.int .i64 0, .int .u32 0, .int .u64 0] k ++ Builtin.zeroCells #[Value.int .i64 0, .int .u32 0, .int .u64 0] (cc - k)).size = cc * 3 := by
    rw [Array.size_append, size_zeroCells, size_zeroCells]
    simp
    omega
  rw [Array.getElem?_eq_getElem (by rw [hs]; exact hj)]; rfl
theorem grow_some (w : World) (m : Nat) (h0 : 0 < m) (hm : m ≤ 10000) : Calls Tryz.prog 189 #[.slice none 0 0, .int .i64 (m : Int)] w fun e w' => ∃ s, e = .returned s ∧ Row w' w.heap.size 3 s 0 [] ∧ Below w.heap.size w w' := by
  obtain ⟨i, hi, hz, hsz, hby⟩ := layE.info
  have hrz : ∀ ty, (Builtin.append_ #[123, 3] ty #[.slice none 0 0, .int .i64 (m : Int)]).run Tryz.prog w =
      .ok (.slice (some ⟨w.heap.size, 0, none⟩) m (grownCap w m 0 39)) (w.drew.alloc (.cells (([] : List Value).toArray ++ Builtin.zeroCells (Value.agg #[.int .i64 0, .int .u32 0, .int .u64 0]).cells m ++ Builtin.zeroCells (Value.agg #[.int .i64 0, .int .u32 0, .int .u64 0]).cells (grownCap w m 0 39 - m)) 39)) := fun ty => by
    have h := Lib.run_append_grow_zeros w 123 3 ty 39 i _ .i64 .i64 Tryz.underlying123 Tryz.underlying3 hi hz none 0 0 [] (run_firstCells_none w.drew i.size 0 0 0) m h0 (by rw [hsz]; omega) (by omega) (by omega)
      (by rw [hby]; omega) (growslice_fits (by omega) (by rw [hby]; omega))
    simpa only [Nat.zero_add] using h
  have hG := grownCap_ge w m 0 39
  have hG2 := grownCap_le_maxLen w m 0 39 (by unfold maxLen; omega)
  generalize grownCap w m 0 39 = G at *
  have hrow := row_zeros w G hG2 m hG
  have HROW := Lib.hid hrow
  unfold maxLen at hG2
  clear hrow hi hz
  go_enter Tryz.func189, Tryz.ntmps189
  go_wp2_with (at_builtin; refine Lib.wpList_append_run _ rfl _ _ _ _ rfl _ _ rfl rfl _ _ (hrz _) ?_)
  go_ret
  exact ⟨.slice (some ⟨w.heap.size, 0, none⟩) 0 G, rfl, HROW.out, (below1 w _).drew⟩
theorem grow_any (w : World) (m : Nat) (hm : m ≤ 10000) : Calls Tryz.prog 189 #[.slice none 0 0, .int .i64 (m : Int)] w fun e w' => ∃ s, e = .returned s ∧ Row w' w.heap.size 3 s 0 [] ∧ Below w.heap.size w w' := by
  rcases Nat.eq_zero_or_pos m with rfl | h
  · exact grow_zero w
  · exact grow_some w m h hm
theorem concat_any {w : World} {b1 b2 B : Nat} {A A2 : Option Addr} {D E : List Ent} {c c2 : Nat} (hB : w.heap[B]? = some (.cells #[.slice A D.length c, .slice A2 E.length c2] 123 (0, 0))) (hr1 : Rd w b1 A (flat D)) (hr2 : Rd w b2 A2 (flat E)) (hb1 : b1 ≤ w.heap.size) (hb2 : b2 ≤ w.heap.size) (hD : D.length ≤ 2000) (hE : E.length ≤ 2000) :
    Calls Tryz.prog 183 #[.slice (some ⟨B, 0, none⟩) 2 2] w fun e w' => ∃ s, e = .returned s ∧ RowE w' w.heap.size s (D ++ E) ∧ Below w.heap.size w w' := by
  have hBl : B < w.heap.size := (Array.getElem?_eq_some_iff.1 hB).1
  have x0 : w.cell? ⟨B, 0, none⟩ = some (.slice A D.length c) := cell_row hB 0
  have x1 : w.cell? ⟨B, 1, none⟩ = some (.slice A2 E.length c2) := cell_row hB 1
  have hg := grow_any w (D.length + E.length) (by omega)
  rw [show ((D.length + E.length : Nat) : Int) = (D.length : Int) + (E.length : Int) by omega] at hg
  have HG := Lib.hid hg; have H1 := Lib.hid hr1; have H2 := Lib.hid hr2; have HS1 := Lib.hid hb1; have HS2 := Lib.hid hb2; have HX0 := Lib.hid x0; have HX1 := Lib.hid x1
  have hl1 := flat_len D
  have hl2 := flat_len E
  have HL1 := Lib.hid hl1; have HL2 := Lib.hid hl2
  clear hg hr1 hr2 hb1 hb2 hB hl1 hl2
  go_enter Tryz.func183, Tryz.ntmps183
  go_wp2_with fail
  refine wp_loop_rounds 3 ?_
  rw [rounds_succ]
  go_wp2_with fail
  rw [rounds_succ]
  go_wp2_with fail
  rw [rounds_succ]
  go_wp2_with fail
  refine HG.out.mono ?_
  rintro e w1 ⟨s1, rfl, hr1, hb1⟩
  have HR1 := Lib.hid hr1; have HB1 := Lib.hid hb1
  have y0 : w1.cell? ⟨B, 0, none⟩ = some (.slice A D.length c) := (hb1.cell (p := ⟨B, 0, none⟩) hBl).trans HX0.out
  have y1 : w1.cell? ⟨B, 1, none⟩ = some (.slice A2 E.length c2) := (hb1.cell (p := ⟨B, 1, none⟩) hBl).trans HX1.out
  clear hr1 hb1 x0 x1
  go_wp2_with fail
  refine wp_loop_rounds 3 ?_
  rw [rounds_succ]
  go_wp2_with (at_builtin; refine wpList_append_row layE rfl _ _ rfl rfl HR1.out (fun u hu => by cases hu) HB1.out.size c rfl (H1.out.below HB1.out HS1.out) (flat_len D) (flat_one' _) (by omega) ?_; intro v2 w2 hr2 ht2 _; (rw [Nat.zero_add, List.nil_append] at hr2); (have hb2 := HR1.out.below_of ht2 HB1.out.size); (have z1 : w2.cell? ⟨B, 1, none⟩ = some (.slice A2 E.length c2) := (hb2.cell (p := ⟨B, 1, none⟩) hBl).trans y1); (have HR2 := Lib.hid hr2); (have HB2 := Lib.hid hb2); (clear hr2 ht2 hb2 y1))
  rw [rounds_succ]
  go_wp2_with (at_builtin; refine wpList_append_row layE rfl _ _ rfl rfl HR2.out (flat_one' _) (Nat.le_trans HB1.out.size HB2.out.size) c2 rfl (H2.out.below (HB1.out.trans HB2.out) HS2.out) (flat_len E) (flat_one' _) (by omega) ?_; intro v3 w3 hr3 ht3 _; (have HR3 := Lib.hid hr3); (have HT3 := Lib.hid ht3); (clear hr3 ht3))
  rw [rounds_succ]
  go_wp2_with fail
  go_ret
  refine ⟨_, rfl, ?_, (HB1.out.trans HB2.out).trans (HR2.out.below_of HT3.out (Nat.le_trans HB1.out.size HB2.out.size))⟩
  show Row w3 _ 3 _ (D ++ E).length _
  rw [List.length_append, flat_app]
  exact HR3.out
end Go.Proofs.YtpmafdggbeppcaaGreatDoor.S10
namespace Go.Proofs.YtpmafdggbeppcaaGreatDoor.S10
set_option maxRecDepth 100000
set_option maxHeartbeats 16000000
open Go.Proofs.YtpmafdggbeppcaaGreatDoor
open Go.RowKit
def Tells (w : World) (D : List Ent) (e : Ending) (w' : World) : Prop := ∃ A, e = .returned (.slice A D.length D.length) ∧ RowE w' w.heap.size (.slice A D.length D.length) D ∧ Below w.heap.size w w'
theorem joined_any {w : World} {b1 b2 : Nat} {A A2 : Option Addr} {D E : List Ent} (c c2 : Nat) (hr1 : Rd w b1 A (flat D)) (hr2 : Rd w b2 A2 (flat E)) (hb1 : b1 ≤ w.heap.size) (hb2 : b2 ≤ w.heap.size) (hD : D.length ≤ 2000) (hE : E.length ≤ 2000) :
    Calls Tryz.prog 174 #[.slice A D.length c, .slice A2 E.length c2] w (Tells w (D ++ E)) := by
  have hb := below1 w (.cells #[.slice A D.length c, .slice A2 E.length c2] 123)
  have hcon := concat_any (heap_alloc_new w (.cells #[.slice A D.length c, .slice A2 E.length c2] 123)) (hr1.below hb hb1) (hr2.below hb hb2) (Nat.le_trans hb1 hb.size) (Nat.le_trans hb2 hb.size) hD hE
  have HC := Lib.hid hcon; have HB := Lib.hid hb
  clear hcon hb hr1 hr2
  have hcl := fun A cap W h1 h2 => clip_any A (D ++ E).length cap W h1 h2
  have HCL := Lib.hid hcl
  clear hcl
  generalize hF : D ++ E = F at *
  clear hF
  go_enter Tryz.func174, Tryz.ntmps174
  go_wp2_with fail
  refine HC.out.mono ?_
  rintro e w1 ⟨s, rfl, hr, hb⟩
  obtain ⟨A3, cap3, rfl, h3, h4⟩ := hr.shape
  have HR := Lib.hid hr; have HB1 := Lib.hid (HB.out.trans (hb.mono HB.out.size))
  clear hr hb
  go_wp2_with fail
  refine (HCL.out A3 cap3 _ h3 h4).mono ?_
  rintro e w2 ⟨rfl, rfl⟩
  go_wp2_with fail
  go_ret
  exact ⟨_, rfl, HR.out.clip.base HB.out.size, HB1.out⟩
theorem mid_get (X Z : List Ent) (y : Ent) : (X ++ ([y] ++ Z))[X.length]! = y := by
  rw [getElem!_pos _ _ (by simp), List.getElem_append_right (Nat.le_refl _)]
  simp
theorem lies_key {w : World} {g o : Nat} {D M : List Ent} {key : Int} {k : Nat} (hk : k < M.length) (h : Lies w g o (flat (D ++ (M.take k).map (re key) ++ M.drop k))) (hs : (w.cell? ⟨g, o + (D.length + k) * 3 + 1, none⟩).isSome = true) :
    Lies (w.setCell ⟨g, o + (D.length + k) * 3 + 1, none⟩ (.int .u32 key)) g o (flat (D ++ (M.take (k + 1)).map (re key) ++ M.drop (k + 1))) := by
  obtain ⟨v, hv⟩ := Option.isSome_iff_exists.1 hs
  have e1 : M.drop k = M[k]! :: M.drop (k + 1) := by rw [getElem!_pos M k hk]; exact (List.drop_eq_getElem_cons hk)
  have e2 : (M.take (k + 1)).map (re key) = (M.take k).map (re key) ++ [re key M[k]!] := by rw [take_snoc hk]; simp
  have hl : (D ++ (M.take k).map (re key)).length = D.length + k := by simp; omega
  generalize M[k]! = d at *
  intro j u e
  by_cases hj : j = (D.length + k) * 3 + 1
  · subst hj
    have : u = .int .u32 key := by
      have hg := flat_get (D ++ (M.take (k + 1)).map (re key) ++ M.drop (k + 1)) (D.length + k) (by simp; omega)
      have e3 : (D ++ (M.take (k + 1)).map (re key) ++ M.drop (k + 1))[D.length + k]! = re key d := by
        rw [e2, show D ++ ((M.take k).map (re key) ++ [re key d]) ++ M.drop (k + 1) = (D ++ (M.take k).map (re key)) ++ ([re key d] ++ M.drop (k + 1)) by simp only [List.append_assoc], ← hl]
        exact mid_get _ _ _
      rw [e3] at hg
      have := hg.2.1
      rw [e] at this
      simpa [re] using this
    subst this
    rw [← Nat.add_assoc]
    exact World.cell?_setCell_same _ _ _ hv
  · rw [World.cell?_setCell_other _ _ _ _ (by simp; (try omega))]
    refine h j u ?_
    rw [e1]
    rw [e2] at e
    have f1 : flat (D ++ (M.take k).map (re key) ++ d :: M.drop (k + 1)) = flat (D ++ (M.take k).map (re key)) ++ (d.cs ++ flat (M.drop (k + 1))) := by rw [flat_app]; rfl
    have f2 : flat (D ++ ((M.take k).map (re key) ++ [re key d]) ++ M.drop (k + 1)) = flat (D ++ (M.take k).map (re key)) ++ ((re key d).cs ++ flat (M.drop (k + 1))) := by
      rw [← List.append_assoc, List.append_assoc, flat_app]; rfl
    rw [f1]
    rw [f2] at e
    have hfl := flat_len (D ++ (M.take k).map (re key))
    rw [hl] at hfl
    by_cases h1 : j < (D.length + k) * 3
    · rw [List.getElem?_append_left (by omega)] at e ⊢
      exact e
    · rw [List.getElem?_append_right (by omega)] at e ⊢
      rw [hfl] at e ⊢
      obtain ⟨i, rfl⟩ : ∃ i, j = (D.length + k) * 3 + i := ⟨j - (D.length + k) * 3, by omega⟩
      rw [Nat.add_sub_cancel_left] at e ⊢
      match i, e with
      | 0, e => exact e
      | 1, e => exact absurd rfl hj
      | 2, e => exact e
      | i + 3, e => exact e
theorem moved_any {w : World} {b1 b2 : Nat} {A A2 : Option Addr} {D M : List Ent} (c c2 : Nat) (key : Int) (hr1 : Rd w b1 A (flat D)) (hr2 : Rd w b2 A2 (flat M)) (hb1 : b1 ≤ w.heap.size) (hb2 : b2 ≤ w.heap.size) (hD : D.length ≤ 2000) (hM : M.length ≤ 2000) :
    Calls Tryz.prog 156 #[.slice A D.length c, .slice A2 M.length c2, .int .u32 key] w (Tells w (movedL D M key)) := by
  have hj := joined_any c c2 hr1 hr2 hb1 hb2 hD hM
  have HJ := Lib.hid hj
  clear hj hr1 hr2
  obtain ⟨n, hn⟩ : ∃ n, n = (D ++ M).length := ⟨_, rfl⟩
  have hn' : n = D.length + M.length := by rw [hn, List.length_append]
  unfold Tells at HJ ⊢
  rw [← hn] at HJ
  rw [moved_len, ← hn']
  have HN := Lib.hid hn'
  have hn4 : n ≤ 4000 := by omega
  have hd4 : D.length ≤ n := by omega
  clear hn hn'
  go_enter Tryz.func156, Tryz.ntmps156
  go_wp2_with fail
  refine HJ.out.mono ?_
  rintro e w1 ⟨A1, rfl, hr, hb⟩
  have HR := Lib.hid hr; have HB := Lib.hid hb
  clear hr hb
  go_wp2_with fail
  go_loopg [8] (n - D.length) (fun q s8 wx => ∃ k : Nat, D.length + k ≤ n ∧ q = n - (D.length + k) ∧ s8 = .int .i64 ((D.length + k : Nat) : Int) ∧ Below w.heap.size w wx ∧ Row wx w.heap.size 3 (.slice A1 n n) n (flat (D ++ (M.take k).map (re key) ++ M.drop k)))
  case atStart =>
    have h2 : Row w1 w.heap.size 3 (.slice A1 n n) (D ++ M).length (flat (D ++ M)) := HR.out
    rw [List.length_append, ← HN.out] at h2
    exact ⟨0, by omega, by omega, rfl, HB.out, by simpa using h2⟩
  case round =>
    obtain ⟨k, hk, rfl, rfl, hb, hrow⟩ := hrel
    have HB2 := Lib.hid hb; have HROW := Lib.hid hrow
    by_cases hkn : D.length + k < n
    · obtain ⟨A', cap', e, h0, h1, h2, h3, h4⟩ := hrow
      cases e
      cases A1 with
      | none => have := h3 rfl; omega
      | some ad =>
        obtain ⟨g, o, rfl, hg, hlt, hl, hc⟩ := h4 ad rfl
        have hc1 := hc ((D.length + k) * 3 + 1) (by omega)
        rw [← Nat.add_assoc] at hc1
        obtain ⟨hs1, hf1⟩ := hc1
        have hnew := lies_key (by have := HN.out; omega) hl hs1
        have HNEW := Lib.hid hnew
        obtain ⟨v1, hv1⟩ := Option.isSome_iff_exists.1 hs1
        obtain ⟨m, hm⟩ : ∃ m, m = D.length + k := ⟨_, rfl⟩
        rw [← hm] at hv1 hf1 hkn ⊢
        have HM := Lib.hid hm
        clear hm h0 h1 h2 h3 h4 hl hc hs1 hnew hb hk
        go_wp2_with fail
        go_roundg (n - (m + 1))
        case measure => have := HM.out; omega
        case rel =>
          have t : Turns (fun k => k = g) wr (wr.setCell ⟨g, o + m * 3 + 1, none⟩ (.int .u32 key)) := (Turns.refl _ _).setCell _ _ rfl
          have hsz : (wr.setCell ⟨g, o + m * 3 + 1, none⟩ (.int .u32 key)).heap.size = wr.heap.size := by simp [World.setCell]
          refine ⟨k + 1, by have := HM.out; omega, by have := HM.out; omega, by have := HM.out; go_num, HB2.out.trans (t.below HB2.out.size (fun k hk e => by omega)), ?_⟩
          obtain ⟨A', cap', e, h0, h1, h2, h3, h4⟩ := HROW.out
          cases e
          obtain ⟨g', o', e', hg', hlt', hl', hc'⟩ := h4 _ rfl
          cases e'
          have hk' := HM.out
          refine ⟨_, _, rfl, ?_, h1, h2, h3, fun ad e => ?_⟩
          · rw [flat_len, List.length_append, List.length_append, List.length_map, List.length_take, List.length_drop]
            have := HN.out
            omega
          · cases e
            refine ⟨g, o, rfl, hg, by rw [hsz]; exact hlt, ?_, fun j hj => ?_⟩
            · rw [hk']; exact HNEW.out
            · refine ⟨?_, (World.frozen?_setCell _ _ _ _).trans (hc' j hj).2⟩
              have := some_setCells g [.int .u32 key] (o + m * 3 + 1) wr ⟨g, o + j, none⟩ (hc' j hj).1
              exact this
    · obtain rfl : D.length + k = n := by omega
      clear hb hrow
      go_wp2_with fail
      go_ret
      refine ⟨_, rfl, ?_, HB2.out⟩
      have := HROW.out
      obtain rfl : k = M.length := by have := HN.out; omega
      rw [List.take_length, List.drop_length, List.append_nil] at this
      show Row wr w.heap.size 3 _ (movedL D M key).length _
      rw [moved_len]
      exact this
end Go.Proofs.YtpmafdggbeppcaaGreatDoor.S10
namespace Go.Proofs.YtpmafdggbeppcaaGreatDoor.S10
open Go.Proofs.YtpmafdggbeppcaaGreatDoor
open Go.RowKit
theorem flat_split (D : List Ent) (k : Nat) : flat D = flat (D.take k) ++ flat (D.drop k) := by rw [← flat_app, List.take_append_drop]
theorem Lies.take {w : World} {g o : Nat} {D : List Ent} (h : Lies w g o (flat D)) (k : Nat) : Lies w g o (flat (D.take k)) := fun j u e => by
  refine h j u ?_
  rw [flat_split D k]
  rw [List.getElem?_append_left (List.getElem?_eq_some_iff.1 e).1]
  exact e
theorem Lies.drop {w : World} {g o : Nat} {D : List Ent} (h : Lies w g o (flat D)) {k : Nat} (hk : k ≤ D.length) : Lies w g (o + k * 3) (flat (D.drop k)) := fun j u e => by
  have h1 : (flat (D.take k)).length = k * 3 := by rw [flat_len, List.length_take]; omega
  have := h (k * 3 + j) u ?_
  · rwa [← Nat.add_assoc] at this
  · rw [flat_split D k, List.getElem?_append_right (by omega), h1, Nat.add_sub_cancel_left]
    exact e
end Go.Proofs.YtpmafdggbeppcaaGreatDoor.S10
set_option linter.unusedVariables false
set_option linter.unusedSimpArgs false
namespace Go.Proofs.YtpmafdggbeppcaaGreatDoor.S18
set_option maxRecDepth 100000
set_option maxHeartbeats 16000000
open Go.Proofs.YtpmafdggbeppcaaGreatDoor Go.Proofs.YtpmafdggbeppcaaGreatDoor.S11 Go.Proofs.YtpmafdggbeppcaaGreatDoor.S12 Go.Proofs.YtpmafdggbeppcaaGreatDoor.S13 Go.Proofs.YtpmafdggbeppcaaGreatDoor.S14 Go.Proofs.YtpmafdggbeppcaaGreatDoor.S15 Go.Proofs.YtpmafdggbeppcaaGreatDoor.S16
open Go.RowKit
def _root_.Go.Proofs.YtpmafdggbeppcaaGreatDoor.S12.Sd.note (M : Sd) (x : Nt) : Sd := { M with nD := addD M.nD x }
theorem _root_.Go.Proofs.YtpmafdggbeppcaaGreatDoor.S12.Pg.noteOf {w0 w : World} {base WB : Nat} {M : Sd} {r : List Part} {X : Wm} (hg : Pg w0 w base WB M r X) (h1' : M.n ≤ 1000000000) (h2' : M.pn ≤ 1000000000) (hl' : M.nD.length ≤ 100000) (hT : Tab w) (t a o b : Int) (k : Nat) (hk : k < 256) :
    Calls Tryz.prog 175 #[Pw WB, .int .i64 t, .int .u8 (k : Int), .int .u32 a, .int .i64 o, .int .u32 b] w fun e w' => e = .returned (.tuple #[]) ∧ ∃ X', Pg w0 w' base WB (M.note ⟨((M.n + M.pn : Nat) : Int), t, k, a, o, b, 0⟩) r X' := by
  have h := hg.pw
  have e1 : X.n = M.n := congrArg Sd.n hg.xm
  have e2 : X.pn = M.pn := congrArg Sd.pn hg.xm
  have e3 : X.nD = M.nD := congrArg Sd.nD hg.xm
  have h1 : X.n ≤ 1000000000 := by rw [e1]; exact h1'
  have h2 : X.pn ≤ 1000000000 := by rw [e2]; exact h2'
  have hl : X.nD.length ≤ 100000 := by rw [e3]; exact hl'
  rw [← e1, ← e2, ← hg.wB]
  clear h1' h2' hl'
  have hb : X.nb ≤ w.heap.size := Nat.le_of_lt (Nat.lt_of_le_of_lt h.notes.low h.notes.lt)
  have HST := Lib.hid (fun (W : World) (b : Below w.heap.size w W) => steps_any (h.new b) h1 h2)
  have HC5 := Lib.hid (fun (W : World) (b : Below w.heap.size w W) => (h.new b).c5)
  have HAD := Lib.hid (fun (W : World) (q : Below w.heap.size w W) => S11.add_any (h.new q).notes (Nat.le_trans hb q.size) (hT.below q hT.1) ⟨((X.n + X.pn : Nat) : Int), t, k, a, o, b, 0⟩ hk hl)
  have HTN := Lib.hid (fun (W W2 : World) (q : Below w.heap.size w W) (l : S11.Leaves 264 .u8 W W2 X.nb X.nB X.ns (addD X.nD ⟨((X.n + X.pn : Nat) : Int), t, k, a, o, b, 0⟩)) =>
    (show ∃ X', Pg w0 W2 base X.wB (M.note ⟨((X.n + X.pn : Nat) : Int), t, k, a, o, b, 0⟩) r X' from by
      obtain ⟨s', hp, hq⟩ := t_notes (i := 5) (hg.new q).ps rfl l
      exact ⟨{ X with ns := s', nD := addD X.nD ⟨((X.n + X.pn : Nat) : Int), t, k, a, o, b, 0⟩ }, hp, rfl, (by rw [← hg.xm]; rfl), (hg.new q).bl.trans hq⟩))
  have HK5 := Lib.hid (fun (W W2 : World) (q : Below w.heap.size w W) (l : S11.Leaves 264 .u8 W W2 X.nb X.nB X.ns (addD X.nD ⟨((X.n + X.pn : Nat) : Int), t, k, a, o, b, 0⟩)) =>
    (show W2.cell? ⟨X.wB, 5, none⟩ = some (Pw X.nB) from by
      obtain ⟨s', hp, hq⟩ := t_notes (i := 5) (h.new q) rfl l
      exact PW.c5 (X := { X with ns := s', nD := addD X.nD ⟨((X.n + X.pn : Nat) : Int), t, k, a, o, b, 0⟩ }) hp))
  have HB0 : Hid (Below w.heap.size w w.drew) := Lib.hid ((Below.refl _ _).drew)
  have c5 := h.c5
  clear h hg hT hl hb e1 e2 e3
  obtain ⟨cB, cM, L, n, kk, aa, was, is, kb, kB, T, most, ks, D, pB, pf, pn, pk, pp, lB, lk, tb, tO, ts, tn, tM, nb, nB, ns, nD, wB, sp⟩ := X
  dsimp only at *
  clear h1 h2 hk
  generalize ((n + pn : Nat) : Int) = tot at *
  go_enter Tryz.func175, Tryz.ntmps175
  go_upto_region 1 with (fail)
  refine wp_region_held_drew (S := fun w' => w'.cell? ⟨wB, 5, none⟩ = some (Pw nB)) (by kernel_rfl) ?_ (fun hHeld => ?_)
  · exact c5
  refine tA 0 ⟨some 14, .move (.tmp 0), 24, "worlds.go:77", #[], none⟩ ?v0 ?r0
  (try simp only [Act.put, tC, tD, tE])
  refine tA 1 ⟨some 15, .nilCheck (.tmp 14), 0, "worlds.go:77", #[⟨0, .data⟩], none⟩ ?v1 ?r1
  (try simp only [Act.put, tC, tD, tE])
  refine tA 2 ⟨some 16, .fieldAddr 74 (.tmp 15) 5, 0, "worlds.go:77", #[⟨1, .data⟩], none⟩ ?v2 ?r2
  (try simp only [Act.put, tC, tD, tE])
  refine tA 3 ⟨some 17, .load 71 (.tmp 16), 71, "worlds.go:77", #[⟨2, .data⟩], none⟩ ?v3 ?r3
  (try simp only [Act.put, tC, tD, tE])
  refine tA 4 ⟨some 18, .move (.tmp 0), 24, "worlds.go:77", #[], none⟩ ?v4 ?r4
  (try simp only [Act.put, tC, tD, tE])
  refine tA 6 ⟨some 20, .move (.tmp 1), 3, "worlds.go:77", #[], none⟩ ?v6 ?r6
  (try simp only [Act.put, tC, tD, tE])
  refine tA 7 ⟨some 21, .move (.tmp 2), 248, "worlds.go:77", #[], none⟩ ?v7 ?r7
  (try simp only [Act.put, tC, tD, tE])
  refine tA 8 ⟨some 22, .move (.tmp 3), 23, "worlds.go:77", #[], none⟩ ?v8 ?r8
  (try simp only [Act.put, tC, tD, tE])
  refine tA 9 ⟨some 23, .move (.tmp 4), 3, "worlds.go:77", #[], none⟩ ?v9 ?r9
  (try simp only [Act.put, tC, tD, tE])
  refine tA 10 ⟨some 24, .move (.tmp 5), 23, "worlds.go:77", #[], none⟩ ?v10 ?r10
  (try simp only [Act.put, tC, tD, tE])
  refine wpAnyH_ready (rs := [5]) (by kernel_rfl) (by simp) ?_
  refine AllReadyH.cons (o := ⟨some 19, .call ⟨.value (.func 100), #[.tmp 18], #[24]⟩, 3, "worlds.go:77", #[⟨4, .data⟩], none⟩) rfl (fun Kq hKq => ?_) AllReadyH.nil
  go_simp
  (refine (HST.out _ HB0.out).mono ?_; rintro e w1 ⟨rfl, hb1⟩)
  refine hKq.out _ _ ?_ (fun hHeld => ?_)
  · exact HC5.out _ (HB0.out.trans (hb1.mono HB0.out.size))
  clear hKq Kq
  (try simp only [Act.put, tC, tD, tE])
  refine tA 11 ⟨some 25, .build 250 #[(0, .tmp 19), (1, .tmp 20), (2, .tmp 21), (3, .tmp 22), (4, .tmp 23), (5, .tmp 24)], 250, "worlds.go:77", #[⟨5, .data⟩, ⟨6, .data⟩, ⟨7, .data⟩, ⟨8, .data⟩, ⟨9, .data⟩, ⟨10, .data⟩], none⟩ ?v11 ?r11
  (try simp only [Act.put, tC, tD, tE])
  refine wpAnyH_ready (rs := [12]) (by kernel_rfl) (by simp) ?_
  refine AllReadyH.cons (o := ⟨some 26, .call ⟨.value (.func 184), #[.tmp 17, .tmp 25], #[71, 250]⟩, 112, "worlds.go:77", #[⟨3, .data⟩, ⟨11, .data⟩, ⟨5, .chain⟩], none⟩) rfl (fun Kq hKq => ?_) AllReadyH.nil
  go_simp
  (refine (HAD.out _ (HB0.out.trans (hb1.mono HB0.out.size))).mono ?_; rintro e w2 ⟨rfl, hl⟩)
  refine hKq.out _ _ ?_ (fun hHeld => ?_)
  · exact HK5.out _ _ (HB0.out.trans (hb1.mono HB0.out.size)) hl
  clear hKq Kq
  (try simp only [Act.put, tC, tD, tE])
  refine wpAnyH_done (by kernel_rfl) ?_ _
  go_wp2_with fail
  go_end0
  exact ⟨rfl, HTN.out _ _ (HB0.out.trans (hb1.mono HB0.out.size)) hl⟩
abbrev Rows := S16.Rows
section
variable {w0 w w' : World} {base WB : Nat} {M : Sd} {r : List Part} {j e u B : Nat} {l l' : Rows} {X : Wm}
theorem _root_.Go.Proofs.YtpmafdggbeppcaaGreatDoor.S12.Pg.note (h : Pg w0 w base WB M r X) (h1 : M.n ≤ 1000000000) (h2 : M.pn ≤ 1000000000) (hl : M.nD.length ≤ 100000) (hT : Tab w) (t a : Int) (k : Nat) (hk : k < 256) :
    Calls Tryz.prog 157 #[Pw WB, .int .i64 t, .int .u8 (k : Int), .int .u32 a] w fun e w' => e = .returned (.tuple #[]) ∧ ∃ X', Pg w0 w' base WB (M.note ⟨((M.n + M.pn : Nat) : Int), t, k, a, -1, 0, 0⟩) r X' := by
  have HN := Lib.hid (h.noteOf h1 h2 hl hT t a (-1) 0 k hk)
  clear h h1 h2 hl hT hk
  go_enter Tryz.func157, Tryz.ntmps157
  go_wp2_with (go_at_call 175; refine HN.out.mono ?_; rintro e w1 ⟨rfl, hn⟩)
  go_end0
  exact ⟨rfl, hn⟩
theorem lot_any (t : Nat) (ht : t < 64) (w : World) : Calls Tryz.prog 23 #[.int .i64 (t : Int)] w fun e w' => e = .returned (.int .i64 ((2 * t : Nat) : Int)) ∧ w = w' := by
  have hof : ∀ W, Calls Tryz.prog 68 #[.int .i64 (t : Int), .int .i64 0] W fun e w' => e = .returned (.int .i64 ((2 * t : Nat) : Int)) ∧ W = w' := fun W => by
    have h1 : decide ((t : Int) < 0) = false := by simp
    have h2 : decide ((64 : Int) ≤ (t : Int)) = false := by simp; omega
    have h3 : wrap64 (wrap64 (2 * (t : Int)) + 0) = ((2 * t : Nat) : Int) := by unfold wrap64; omega
    have h4 : wrap64 (2 * (t : Int)) = 2 * (t : Int) := by unfold wrap64; omega
    have h5 : wrap64 (2 * (t : Int) + 0) = ((2 * t : Nat) : Int) := by unfold wrap64; omega
    go_enter Tryz.func68, Tryz.ntmps68
    go_wp2_with fail
    go_ret
    exact ⟨by simp [h4] , rfl⟩
  have HO := Lib.hid hof
  clear hof ht
  go_enter Tryz.func23, Tryz.ntmps23
  go_wp2_with (go_at_call 68; refine (HO.out _).mono ?_; rintro e w1 ⟨rfl, rfl⟩)
  go_ret
  exact ⟨rfl, rfl⟩
end
end Go.Proofs.YtpmafdggbeppcaaGreatDoor.S18
namespace Go.Proofs.YtpmafdggbeppcaaGreatDoor.S4
set_option maxRecDepth 100000
set_option maxHeartbeats 16000000
open Go.Proofs.YtpmafdggbeppcaaGreatDoor Go.Proofs.YtpmafdggbeppcaaGreatDoor.S11
open Go.RowKit
def untilK (x : Pk) (at_ now : Nat) : Pk := if x.p then pk0 else if at_ ≤ now then pk0 else ⟨false, true, true, at_⟩
def untilO (x : Pk) (at_ now : Nat) : Nat := if x.p then 1 else if at_ ≤ now then 2 else 0
theorem until_b {w : World} {B : Nat} {f : Nat → Pk} {n kd pk : Int} (h : PkAt w B f n kd pk) (hn : 0 ≤ n ∧ n ≤ 1000000000) {i : Nat} (hi : i < 128) (at_ now : Nat) (b c : Bool) (hb : (f i).p = b) (hc : decide (at_ ≤ now) = c) :
    Calls Tryz.prog 247 #[Pt B, .int .i64 (i : Int), .int .u64 (at_ : Int), .int .u64 (now : Int)] w fun e w' => e = .returned (.int .u8 (untilO (f i) at_ now : Nat)) ∧ PSets w w' B (updP f i (untilK (f i) at_ now)) (n + 1) 3 (i : Int) := by
  have hq := called_yes h hn 3 hi
  have HQ := Lib.hid hq
  have h1 : (i : Int) < 128 := by omega
  clear hq h hn
  go_enter Tryz.func247, Tryz.ntmps247
  go_upto_region 3 with (go_at_call 173; refine HQ.out.mono ?_; rintro e w1 ⟨rfl, hp, ht, hz⟩)
  have htk := take_any hp hi
  have HTK := Lib.hid htk; have HP := Lib.hid hp; have HT := Lib.hid ht; have HZ := Lib.hid hz
  clear htk hp ht hz
  cases b
  · have hp := hb
    clear hb
    rw [hp] at HTK
    cases c
    · have hk : untilK (f i) at_ now = ⟨false, true, true, at_⟩ := by unfold untilK; rw [hp, if_neg (by decide), if_neg (of_decide_eq_false hc)]
      have ho : untilO (f i) at_ now = 0 := by unfold untilO; rw [hp, if_neg (by decide), if_neg (of_decide_eq_false hc)]
      have d1 : decide ((at_ : Int) ≤ (now : Int)) = false := decide_eq_false (by have := of_decide_eq_false hc; omega)
      have HK := Lib.hid hk; have HO := Lib.hid ho
      clear hk hp ho
      go_upto_region 8 with (go_at_call 249; refine HTK.out.mono ?_; rintro e w2 ⟨rfl, hp2, ht2, hz2⟩)
      rw [if_neg (by decide)] at hp2
      have c0 := hp2.c0 i hi; have c1 := hp2.c1 i hi; have c2 := hp2.c2 i hi; have c3 := hp2.c3 i hi
      have z0 := hp2.fz (i * 4); have z1 := hp2.fz (i * 4 + 1); have z2 := hp2.fz (i * 4 + 2); have z3 := hp2.fz (i * 4 + 3)
      have HP2 := Lib.hid hp2; have HT2 := Lib.hid (HT.out.trans ht2 (fun _ _ e => e)); have HZ2 := Lib.hid (hz2.trans HZ.out)
      clear hp2 ht2 hz2 HP HT HZ HTK HQ
      go_wp2_with fail
      go_ret
      refine ⟨by rw [HO.out]; rfl, by rw [HK.out]; exact HP2.out.setAll hi ⟨false, true, true, at_⟩, ?_, by simpa [World.setCell] using HZ2.out⟩
      exact ((((HT2.out.setCell ⟨B, i * 4, none⟩ _ rfl).setCell ⟨B, i * 4 + 1, none⟩ _ rfl).setCell ⟨B, i * 4 + 2, none⟩ _ rfl).setCell ⟨B, i * 4 + 3, none⟩ _ rfl)
    · have hk : untilK (f i) at_ now = pk0 := by unfold untilK; rw [hp, if_neg (by decide), if_pos (of_decide_eq_true hc)]
      have ho : untilO (f i) at_ now = 2 := by unfold untilO; rw [hp, if_neg (by decide), if_pos (of_decide_eq_true hc)]
      have d1 : decide ((at_ : Int) ≤ (now : Int)) = true := decide_eq_true (by have := of_decide_eq_true hc; omega)
      have HK := Lib.hid hk; have HO := Lib.hid ho
      clear hk hp ho
      go_upto_region 6 with (go_at_call 249; refine HTK.out.mono ?_; rintro e w2 ⟨rfl, hp2, ht2, hz2⟩)
      rw [if_neg (by decide)] at hp2
      have c0 := hp2.c0 i hi; have c1 := hp2.c1 i hi; have c2 := hp2.c2 i hi; have c3 := hp2.c3 i hi
      have z0 := hp2.fz (i * 4); have z1 := hp2.fz (i * 4 + 1); have z2 := hp2.fz (i * 4 + 2); have z3 := hp2.fz (i * 4 + 3)
      have HP2 := Lib.hid hp2; have HT2 := Lib.hid (HT.out.trans ht2 (fun _ _ e => e)); have HZ2 := Lib.hid (hz2.trans HZ.out)
      clear hp2 ht2 hz2 HP HT HZ HTK HQ
      go_wp2_with fail
      go_ret
      refine ⟨by rw [HO.out]; rfl, by rw [HK.out]; exact HP2.out.setAll hi pk0, ?_, by simpa [World.setCell] using HZ2.out⟩
      exact ((((HT2.out.setCell ⟨B, i * 4, none⟩ _ rfl).setCell ⟨B, i * 4 + 1, none⟩ _ rfl).setCell ⟨B, i * 4 + 2, none⟩ _ rfl).setCell ⟨B, i * 4 + 3, none⟩ _ rfl)
  · have hp := hb
    clear hb
    rw [hp] at HTK
    have hk : untilK (f i) at_ now = pk0 := by unfold untilK; rw [hp]; rfl
    have ho : untilO (f i) at_ now = 1 := by unfold untilO; rw [hp]; rfl
    have HK := Lib.hid hk; have HO := Lib.hid ho
    clear hk hp ho hc
    go_wp2_with (go_at_call 249; refine HTK.out.mono ?_; rintro e w2 ⟨rfl, hp2, ht2, hz2⟩)
    go_ret
    exact ⟨by rw [HO.out]; rfl, by rw [HK.out]; exact hp2, HT.out.trans ht2 (fun _ _ e => e), hz2.trans HZ.out⟩
theorem late_yes {w : World} {B : Nat} {f : Nat → Pk} {n kd pk : Int} (h : PkAt w B f n kd pk) (hn : 0 ≤ n ∧ n ≤ 1000000000) {i : Nat} (hi : i < 128) :
    Calls Tryz.prog 198 #[Pt B, .int .i64 (i : Int)] w fun e w' => e = .returned (.bool (!(f i).p)) ∧ PSets w w' B f (n + 1) 5 (i : Int) := by
  have hq := called_yes h hn 5 hi
  have HQ := Lib.hid hq
  have h1 : (i : Int) < 128 := by omega
  obtain ⟨b, hb⟩ : ∃ b, b = (f i).p := ⟨_, rfl⟩
  rw [← hb]
  have HB := Lib.hid hb
  clear hq h hn hb
  go_enter Tryz.func198, Tryz.ntmps198
  go_wp2_with (go_at_call 173; refine HQ.out.mono ?_; rintro e w1 ⟨rfl, hp, ht, hz⟩; have c0 := hp.c0 i hi; rw [← HB.out] at c0; have HP := Lib.hid hp; have HT := Lib.hid ht; have HZ := Lib.hid hz; clear hp ht hz)
  go_ret
  exact ⟨rfl, HP.out, HT.out, HZ.out⟩
end Go.Proofs.YtpmafdggbeppcaaGreatDoor.S4
namespace Go.Proofs.YtpmafdggbeppcaaGreatDoor.S18
set_option maxRecDepth 100000
set_option maxHeartbeats 16000000
open Go.Proofs.YtpmafdggbeppcaaGreatDoor Go.Proofs.YtpmafdggbeppcaaGreatDoor.S11 Go.Proofs.YtpmafdggbeppcaaGreatDoor.S12 Go.Proofs.YtpmafdggbeppcaaGreatDoor.S13 Go.Proofs.YtpmafdggbeppcaaGreatDoor.S14 Go.Proofs.YtpmafdggbeppcaaGreatDoor.S15 Go.Proofs.YtpmafdggbeppcaaGreatDoor.S16
open Go.RowKit
def _root_.Go.Proofs.YtpmafdggbeppcaaGreatDoor.S12.Sd.until (M : Sd) (i at_ : Nat) : Sd := M.call 3 (i : Int) (S4.updP M.pf i (S4.untilK (M.pf i) at_ M.T))
def _root_.Go.Proofs.YtpmafdggbeppcaaGreatDoor.S12.Sd.late (M : Sd) (i : Nat) : Sd := M.call 5 (i : Int) M.pf
section
variable {w0 w w' : World} {base WB : Nat} {M : Sd} {r : List Part} {j e u B : Nat} {l l' : Rows} {X : Wm}
theorem _root_.Go.Proofs.YtpmafdggbeppcaaGreatDoor.S12.Pg.until (h : Pg w0 w base WB M r X) (hn : M.pn ≤ 1000000000) {i : Nat} (hi : i < 128) (at_ : Nat) :
    Calls Tryz.prog 247 #[Pw X.pB, .int .i64 (i : Int), .int .u64 (at_ : Int), .int .u64 (M.T : Int)] w fun e w' => e = .returned (.int .u8 (S4.untilO (M.pf i) at_ M.T : Nat)) ∧ ∃ X', Pg w0 w' base WB (M.until i at_) r X' ∧ X'.pB = X.pB := by
  have e2 : X.pn = M.pn := congrArg Sd.pn h.xm
  refine (S4.until_b h.pw.permits (by omega) hi at_ M.T _ _ rfl rfl).mono ?_
  rintro e w' ⟨rfl, hl⟩
  rw [show X.pf = M.pf from congrArg Sd.pf h.xm] at hl ⊢
  exact ⟨rfl, h.perm hl⟩
theorem _root_.Go.Proofs.YtpmafdggbeppcaaGreatDoor.S12.Pg.late (h : Pg w0 w base WB M r X) (hn : M.pn ≤ 1000000000) {i : Nat} (hi : i < 128) :
    Calls Tryz.prog 198 #[Pw X.pB, .int .i64 (i : Int)] w fun e w' => e = .returned (.bool (!(M.pf i).p)) ∧ ∃ X', Pg w0 w' base WB (M.late i) r X' ∧ X'.pB = X.pB := by
  have e2 : X.pn = M.pn := congrArg Sd.pn h.xm
  refine (S4.late_yes h.pw.permits (by omega) hi).mono ?_
  rintro e w' ⟨rfl, hl⟩
  rw [show X.pf = M.pf from congrArg Sd.pf h.xm] at hl ⊢
  exact ⟨rfl, h.perm hl⟩
def qAt (M : Sd) (b : Int) (i : Nat) : List S10.Ent := (M.m b)[i]!.q
def _root_.Go.Proofs.YtpmafdggbeppcaaGreatDoor.S12.Sd.putq (M : Sd) (b : Int) (i : Nat) (D : List S10.Ent) : Sd := M.tab (S10.upd M.m b ((M.m b).set i { (M.m b)[i]! with q := D }))
theorem _root_.Go.Proofs.YtpmafdggbeppcaaGreatDoor.S12.Pg.queue (h : Pg w0 w base WB M r X) {b : Int} (hb : S10.InI b) {i : Nat} (hi : i < (M.m b).length) (hlen : (qAt M b i).length ≤ 1000000) :
    Calls Tryz.prog 55 #[X.ts, .agg #[.int .i64 b, .int .i64 (i : Int)]] w fun e w' => ∃ A', e = .returned (.slice A' (qAt M b i).length (qAt M b i).length) ∧ S10.RowE w' w.heap.size (.slice A' (qAt M b i).length (qAt M b i).length) (qAt M b i) ∧ Below w.heap.size w w' := by
  obtain ⟨Fq, hr⟩ := h.pw.tables.rs
  rw [show X.tM = M.m from congrArg Sd.m h.xm] at hr
  exact S10.queue_yes hr hb hi hlen
theorem _root_.Go.Proofs.YtpmafdggbeppcaaGreatDoor.S12.Pg.put (h : Pg w0 w base WB M r X) {b : Int} (hb : S10.InI b) {i : Nat} (hi : i < (M.m b).length) {b0 c0 : Nat} {A0 : Option Addr} {D : List S10.Ent} (hr : S10.Rd w b0 A0 (S10.flat D)) (hb0 : b0 ≤ w.heap.size) (hlen : D.length ≤ 1000000) :
    Calls Tryz.prog 41 #[X.ts, .agg #[.int .i64 b, .int .i64 (i : Int)], .slice A0 D.length c0] w fun e w' => e = .returned (.bool true) ∧ ∃ X', Pg w0 w' base WB (M.putq b i D) r X' ∧ X'.ts = X.ts := by
  have hs := h.pw.tables
  rw [show X.tM = M.m from congrArg Sd.m h.xm] at hs
  have ee : X.parts[4]? = some (tablesP X.tb X.tO X.ts X.tn M.m) := by rw [← show X.tM = M.m from congrArg Sd.m h.xm]; rfl
  have ee2 : (X.parts ++ r)[4]? = some (tablesP X.tb X.tO X.ts X.tn M.m) := by rw [List.getElem?_append_left (by show 4 < 7; omega)]; exact ee
  refine (S10.put_yes hs hb hi hr hb0 hlen).mono ?_
  rintro e w' ⟨rfl, own', hst, ht, hf⟩
  obtain ⟨hp, hbl⟩ := t_tables (i := 4) h.ps ee2 hst ht hf
  refine ⟨rfl, { X with tO := own', tM := S10.upd M.m b ((M.m b).set i { (M.m b)[i]! with q := D }) }, ⟨hp, h.wB, ?_, h.bl.trans hbl⟩, rfl⟩
  rw [← h.xm]; rfl
theorem _root_.Go.Proofs.YtpmafdggbeppcaaGreatDoor.S12.Pg.k4 (h : Pg w0 w base WB M r X) : w.cell? ⟨WB, 4, none⟩ = some X.ts := by rw [← h.wB]; exact h.pw.c4
end
end Go.Proofs.YtpmafdggbeppcaaGreatDoor.S18
set_option linter.unusedVariables false
set_option linter.unusedSimpArgs false
namespace Go.Proofs.YtpmafdggbeppcaaGreatDoor.S18
set_option maxRecDepth 100000
set_option maxHeartbeats 16000000
open Go.Proofs.YtpmafdggbeppcaaGreatDoor Go.Proofs.YtpmafdggbeppcaaGreatDoor.S11 Go.Proofs.YtpmafdggbeppcaaGreatDoor.S12 Go.Proofs.YtpmafdggbeppcaaGreatDoor.S13 Go.Proofs.YtpmafdggbeppcaaGreatDoor.S14 Go.Proofs.YtpmafdggbeppcaaGreatDoor.S15 Go.Proofs.YtpmafdggbeppcaaGreatDoor.S16
open Go.RowKit
structure Ck where
  a : Nat
  all : Nat
  any : Nat
  clr : Nat
def Ck.cs (c : Ck) : Array Value := #[.int .u32 (c.a : Int), .int .u64 (c.all : Int), .int .u64 (c.any : Int), .int .u64 (c.clr : Int)]
def hkV : Option Ck → Value
  | none => .iface 59 (.agg #[])
  | some c => .iface 108 (.agg c.cs)
structure Pd where
  t : Nat
  k : Nat
  z : Nat
  on : Bool
  at' : Nat
  hk : Option Ck
def pkC (D : Pd) (pb pi : Int) (p b : Value) (o : Nat) : Array Value :=
  #[.int .i64 (D.t : Int), .int .u32 (D.k : Int), .int .u64 (D.z : Int), .bool D.on, .int .u64 (D.at' : Int), hkV D.hk, .int .i64 pb, .int .i64 pi, p, b, .int .u8 (o : Int)]
abbrev pkO (D : Pd) (pb pi : Int) (p b : Value) (o : Nat) : Obj := .cells (pkC D pb pi p b o) 50 (0, 0)
abbrev xO (B : Nat) : Obj := .cells #[Pw B] 51 (0, 0)
abbrev oneO (f : Fn) (bs cs : Array Value) (b : Bool) : Obj := .cells #[.func f bs cs, .bool b] 309 (0, 0)
abbrev fnV (f : Nat) (bs cs : Array Value) : Value := .func (.func f) bs cs
theorem perm_ok {l l' : Rows} (p : l'.Perm l) (hn : (l.map Prod.fst).Nodup) : (l'.map Prod.fst).Nodup := (List.Perm.nodup_iff (p.map Prod.fst)).2 hn
theorem eqI (T : TypeId) (v : Value) (w : World) : (binOp .eql 47 (.iface T v) .nilIface).run Tryz.prog w = .ok (.bool false) w := by kernel_rfl
theorem eqI0 (w : World) : (binOp .eql 47 .nilIface .nilIface).run Tryz.prog w = .ok (.bool true) w := by kernel_rfl
section
variable {w0 w w' : World} {base WB : Nat} {M : Sd} {r : List Part} {j e u B : Nat} {l l' : Rows} {X : Wm} {D : Pd} {pb pi : Int} {p b : Value} {o : Nat}
theorem _root_.Go.Proofs.YtpmafdggbeppcaaGreatDoor.S16.Wq.perm (h : Wq w0 w base WB M r j l X) (p : l'.Perm l) : Wq w0 w base WB M r j l' X := h.only (fun x hx => p.subset hx) (perm_ok p h.at.2)
theorem do_ (h : Wq w0 w base WB M r j l X) (hb : l[0]? = some (B, pkO D pb pi p b o)) (T : TypeId) (v : Value) (f : Fn) (bs cs : Array Value) :
    Calls Tryz.prog 95 #[Pw B, .iface T v, .func f bs cs] w fun e w' => e = .returned (.tuple #[]) ∧ Wq w0 w' base WB M r j (l.set 0 (B, pkO D pb pi (.iface T v) (.func f bs cs) o)) X := by
  have c8 : w.cell? ⟨B, 8, none⟩ = some p := cell_row (h.blk 0 hb) 8
  have c9 : w.cell? ⟨B, 9, none⟩ = some b := cell_row (h.blk 0 hb) 9
  have f8 := froz_row (h.blk 0 hb) 8
  have f9 := froz_row (h.blk 0 hb) 9
  have h1 := h.put 0 hb 8 (.iface T v) (cs' := pkC D pb pi (.iface T v) b o) rfl
  have h2 := h1.put 0 (List.getElem?_set_self (List.getElem?_eq_some_iff.1 hb).1) 9 (.func f bs cs) (cs' := pkC D pb pi (.iface T v) (.func f bs cs) o) rfl
  rw [List.set_set] at h2
  have H2 := Lib.hid h2
  have e1 := eqI T v
  clear h h1 h2 hb
  go_enter Tryz.func95, Tryz.ntmps95
  go_wp2_with fail
  go_end0
  exact ⟨rfl, H2.out⟩
theorem once_ (h : Wq w0 w base WB M r j l X) (hb : l[0]? = some (B, pkO D pb pi p b o)) (g : Fn) (gs gc : Array Value) (f : Fn) (bs cs : Array Value) :
    Calls Tryz.prog 141 #[Pw B, .func g gs gc, .func f bs cs] w fun e w' => e = .returned (.tuple #[]) ∧ Wq w0 w' base WB M r j ((l ++ [(w.heap.size, oneO g gs gc false)]).set 0 (B, pkO D pb pi (.iface 307 (Pw w.heap.size)) (.func f bs cs) o)) X := by
  have h1 := h.push (oneO g gs gc false)
  have HD := Lib.hid (do_ h1 (app1 hb) 307 (Pw w.heap.size) f bs cs)
  clear h h1 hb
  go_enter Tryz.func141, Tryz.ntmps141
  go_wp2_with (go_at_call 95; refine HD.out.mono ?_; rintro e w1 ⟨rfl, h2⟩)
  go_end0
  exact ⟨rfl, h2⟩
theorem lock_ (h : Wq w0 w base WB M r j l X) (hb : l[0]? = some (B, pkO D pb pi p b o)) :
    Calls Tryz.prog 161 #[Pw B] w fun e w' => e = .returned (.int .u32 (S10.lockZ pb pi)) ∧ Below w.heap.size w w' := by
  have c6 : w.cell? ⟨B, 6, none⟩ = some (.int .i64 pb) := cell_row (h.blk 0 hb) 6
  have c7 : w.cell? ⟨B, 7, none⟩ = some (.int .i64 pi) := cell_row (h.blk 0 hb) 7
  have HL := Lib.hid (lockOf_any pb pi w)
  clear h hb
  generalize S10.lockZ pb pi = a at *
  go_enter Tryz.func161, Tryz.ntmps161
  go_wp2_with (go_at_call 177; refine HL.out.mono ?_; rintro e w1 ⟨rfl, hb1⟩)
  go_ret
  exact ⟨rfl, hb1⟩
theorem free_ (h : Wq w0 w base WB M r j l X) (hb : l[0]? = some (B, pkO D pb pi p b o)) (hju : j ≠ u) (hu : u < r.length) {a : Nat} (hz : S10.lockZ pb pi = (a : Int)) (f : Fn) (bs cs : Array Value) :
    Calls Tryz.prog 144 #[Pw B, .func f bs cs] w fun e w' => e = .returned (.tuple #[]) ∧ ∃ U, Wq w0 w' base WB M (r.set u (freeP U (fr0 a))) j (l.set 0 (B, pkO D pb pi (.iface 313 (Pw U)) (.func f bs cs) o)) X := by
  have hl := lock_ h hb
  rw [hz] at hl
  have HL := Lib.hid hl; have HN := Lib.hid (fun W => new_free a W)
  have HD := Lib.hid (fun (W : World) (r' : List Part) (hW : Wq w0 W base WB M r' j l X) (U : Nat) => do_ hW hb 313 (Pw U) f bs cs)
  have HF := Lib.hid (fun (W : World) (hb : Below w.heap.size w W) => (h.new hb).newU hju hu (.cells (fr0 a).cs 334))
  clear h hb hju hu hz hl
  go_enter Tryz.func144, Tryz.ntmps144
  go_wp2_with (first
    | (go_at_call 161; refine HL.out.mono ?_; rintro e w1 ⟨rfl, hb1⟩; have h1 := HF.out w1 hb1; have H1 := Lib.hid h1; clear h1 hb1)
    | (go_at_call 160; refine (HN.out _).mono ?_; rintro e w2 ⟨rfl, rfl⟩)
    | (go_at_call 95; refine (HD.out _ _ H1.out _).mono ?_; rintro e w3 ⟨rfl, h3⟩))
  go_end0
  exact ⟨rfl, _, h3⟩
theorem store_ (h : Wq w0 w base WB M r j l X) (hb : l[0]? = some (B, pkO D pb pi p b o)) :
    Calls Tryz.prog 129 #[Pw B] w fun e w' => e = .returned (.tuple #[]) ∧ ∃ XB NB, Wq w0 w' base WB M r j [(B, pkO D pb pi (.iface 307 (Pw NB)) (fnV 143 #[Pw B] #[]) o), (XB, xO B), (NB, oneO (.func 142) #[] #[Pw XB] false)] X := by
  have h1 := h.push (xO B)
  have y0 : (w.alloc (xO B)).cell? ⟨w.heap.size, 0, none⟩ = some (Pw B) := cell_row (h1.blk l.length (at_end _ _)) 0
  obtain ⟨XB, hX⟩ : ∃ XB, XB = w.heap.size := ⟨_, rfl⟩
  have hlt := (List.getElem?_eq_some_iff.1 hb).1
  have HF := Lib.hid (once_ h1 (app1 hb) (.func 142) #[] #[Pw w.heap.size] (.func 143) #[Pw B] #[])
  rw [← hX] at y0 HF
  have HX := Lib.hid hX; have HLT := Lib.hid hlt
  clear h h1 hb hX hlt
  go_enter Tryz.func129, Tryz.ntmps129
  go_upto_region 1 with fail
  rw [← HX.out]
  generalize w.alloc (xO B) = w2 at *
  go_wp2_with (go_at_call 141; refine HF.out.mono ?_; rintro e w3 ⟨rfl, h3⟩)
  go_end0
  rw [List.append_assoc] at h3
  exact ⟨rfl, XB, _, h3.keep HLT.out⟩
theorem queue_ (h : Wq w0 w base WB M r j l X) (hb : l[0]? = some (B, pkO D pb pi p b o)) :
    Calls Tryz.prog 143 #[Pw B] w fun e w' => e = .returned (.tuple #[]) ∧ ∃ XB NB, Wq w0 w' base WB M r j [(B, pkO D pb pi (.iface 307 (Pw NB)) (fnV 158 #[] #[Pw XB]) o), (XB, xO B), (NB, oneO (.func 153) #[] #[Pw XB] false)] X := by
  have h1 := h.push (xO B)
  have y0 : (w.alloc (xO B)).cell? ⟨w.heap.size, 0, none⟩ = some (Pw B) := cell_row (h1.blk l.length (at_end _ _)) 0
  obtain ⟨XB, hX⟩ : ∃ XB, XB = w.heap.size := ⟨_, rfl⟩
  have hlt := (List.getElem?_eq_some_iff.1 hb).1
  have HF := Lib.hid (once_ h1 (app1 hb) (.func 153) #[] #[Pw w.heap.size] (.func 158) #[] #[Pw w.heap.size])
  rw [← hX] at y0 HF
  have HX := Lib.hid hX; have HLT := Lib.hid hlt
  clear h h1 hb hX hlt
  go_enter Tryz.func143, Tryz.ntmps143
  go_upto_region 1 with fail
  rw [← HX.out]
  generalize w.alloc (xO B) = w2 at *
  go_wp2_with (go_at_call 141; refine HF.out.mono ?_; rintro e w3 ⟨rfl, h3⟩)
  go_end0
  rw [List.append_assoc] at h3
  exact ⟨rfl, XB, _, h3.keep HLT.out⟩
theorem queue2_ {XB : Nat} {k : Nat} (h : Wq w0 w base WB M r j l X) (hb : l[0]? = some (B, pkO D pb pi p b o)) (hx : l[k]? = some (XB, xO B)) (hju : j ≠ u) (hu : u < r.length) {a : Nat} (hz : S10.lockZ pb pi = (a : Int)) :
    Calls Tryz.prog 158 #[Pw XB] w fun e w' => e = .returned (.tuple #[]) ∧ ∃ U, Wq w0 w' base WB M (r.set u (freeP U (fr0 a))) j [(B, pkO D pb pi (.iface 313 (Pw U)) (fnV 159 #[Pw B] #[]) o)] X := by
  have y0 : w.cell? ⟨XB, 0, none⟩ = some (Pw B) := cell_row (h.blk k hx) 0
  have hlt := (List.getElem?_eq_some_iff.1 hb).1
  have HF := Lib.hid (free_ h hb hju hu hz (.func 159) #[Pw B] #[])
  have HLT := Lib.hid hlt
  clear h hb hx hju hu hz hlt
  go_enter Tryz.func158, Tryz.ntmps158
  go_wp2_with (go_at_call 144; refine HF.out.mono ?_; rintro e w3 ⟨rfl, U, h3⟩)
  go_end0
  have h4 := (show Wq w0 w3 base WB M (r.set u (freeP U (fr0 a))) j ((l ++ []).set 0 (B, pkO D pb pi (.iface 313 (Pw U)) (fnV 159 #[Pw B] #[]) o)) X by rw [List.append_nil]; exact h3).keep HLT.out
  exact ⟨rfl, U, h4⟩
end
end Go.Proofs.YtpmafdggbeppcaaGreatDoor.S18
