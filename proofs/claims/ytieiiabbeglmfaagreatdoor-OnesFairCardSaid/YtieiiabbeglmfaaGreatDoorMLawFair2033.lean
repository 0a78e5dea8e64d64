/- Texts of this seat, one behind the other. -/
import Derived.Test.YtieiiabbeglmfaaGreatDoorMLawFair201
import Derived.Test.YtieiiabbeglmfaaGreatDoorMLawFair2032
import Derived.Lib.AppendZerosOnto
import Derived.Lib.Walk
set_option linter.unusedVariables false
set_option linter.unusedSimpArgs false
set_option linter.unusedVariables false
set_option linter.unusedSimpArgs false
namespace Go.Proofs.YtieiiabbeglmfaaGreatDoor.S10
set_option maxRecDepth 100000
set_option maxHeartbeats 16000000
open Go.Proofs.YtieiiabbeglmfaaGreatDoor
open Go.RowKit
theorem grow_zero (w : World) : Calls Tryz.prog 260 #[.slice none 0 0, .int .i64 ((0 : Nat) : Int)] w fun e w' => ∃ s, e = .returned s ∧ Row w' w.heap.size 3 s 0 [] ∧ Below w.heap.size w w' := by
  go_enter Tryz.func260, Tryz.ntmps260
  go_wp2
  go_ret
  exact ⟨_, rfl, row_nil _ _ _, Below.refl _ _⟩
theorem row_zeros (w : World) (cc : Nat) (h : cc ≤ maxLen) (k : Nat) (hk : k ≤ cc) : Row (w.alloc (.cells (Builtin.zeroCells #[Value.int .i64 0, .int .u32 0, .int .u64 0] k ++ Builtin.zeroCells #[Value.int .i64 0, .int .u32 0, .int .u64 0] (cc - k)) 121)).drew w.heap.size 3 (.slice (some ⟨w.heap.size, 0, none⟩) 0 cc) 0 [] := by
  refine ⟨_, cc, rfl, by simp, Nat.zero_le _, h, (fun e => by cases e), fun ad e => ?_⟩
  cases e
  have hnew := heap_alloc_new w (.cells (Builtin.zeroCells #[Value.int .i64 0, .int .u32 0, .int .u64 0] k ++ Builtin.zeroCells #[Value.int .i64 0, .int .u32 0, .int .u64 0] (cc - k)) 121)
  refine ⟨w.heap.size, 0, rfl, Nat.le_refl _, by simp, fun j u e => by simp at e, fun j hj => ⟨?_, froz_row (w := (w.alloc _).drew) hnew _⟩⟩
  rw [cell_row (w := (w.alloc _).drew) hnew, Nat.zero_add]
  have hs : (Builtin.zeroCells #[Value.int .i64 0, .int .u32 0, .int .u64 0] k ++ Builtin.zeroCells #[Value.int .i64 0, .int .u32 0, .int .u64 0] (cc - k)).size = cc * 3 := by
    rw [Array.size_append, size_zeroCells, size_zeroCells]
    simp
    omega
  rw [Array.getElem?_eq_getElem (by rw [hs]; exact hj)]; rfl
theorem grow_some (w : World) (m : Nat) (h0 : 0 < m) (hm : m ≤ 10000) : Calls Tryz.prog 260 #[.slice none 0 0, .int .i64 (m : Int)] w fun e w' => ∃ s, e = .returned s ∧ Row w' w.heap.size 3 s 0 [] ∧ Below w.heap.size w w' := by
  obtain ⟨i, hi, hz, hsz, hby⟩ := layE.info
  have hrz : ∀ ty, (Builtin.append_ #[106, 3] ty #[.slice none 0 0, .int .i64 (m : Int)]).run Tryz.prog w =
      .ok (.slice (some ⟨w.heap.size, 0, none⟩) m (grownCap w m 0 121)) (w.drew.alloc (.cells (([] : List Value).toArray ++ Builtin.zeroCells (Value.agg #[.int .i64 0, .int .u32 0, .int .u64 0]).cells m ++ Builtin.zeroCells (Value.agg #[.int .i64 0, .int .u32 0, .int .u64 0]).cells (grownCap w m 0 121 - m)) 121)) := fun ty => by
    have h := Lib.run_append_grow_zeros w 106 3 ty 121 i _ .i64 .i64 Tryz.underlying106 Tryz.underlying3 hi hz none 0 0 [] (run_firstCells_none w.drew i.size 0 0 0) m h0 (by rw [hsz]; omega) (by omega) (by omega)
      (by rw [hby]; omega) (growslice_fits (by omega) (by rw [hby]; omega))
    simpa only [Nat.zero_add] using h
  have hG := grownCap_ge w m 0 121
  have hG2 := grownCap_le_maxLen w m 0 121 (by unfold maxLen; omega)
  generalize grownCap w m 0 121 = G at *
  have hrow := row_zeros w G hG2 m hG
  have HROW := Lib.hid hrow
  unfold maxLen at hG2
  clear hrow hi hz
  go_enter Tryz.func260, Tryz.ntmps260
  go_wp2_with (at_builtin; refine Lib.wpList_append_run _ rfl _ _ _ _ rfl _ _ rfl rfl _ _ (hrz _) ?_)
  go_ret
  exact ⟨.slice (some ⟨w.heap.size, 0, none⟩) 0 G, rfl, HROW.out, (below1 w _).drew⟩
theorem grow_any (w : World) (m : Nat) (hm : m ≤ 10000) : Calls Tryz.prog 260 #[.slice none 0 0, .int .i64 (m : Int)] w fun e w' => ∃ s, e = .returned s ∧ Row w' w.heap.size 3 s 0 [] ∧ Below w.heap.size w w' := by
  rcases Nat.eq_zero_or_pos m with rfl | h
  · exact grow_zero w
  · exact grow_some w m h hm
theorem concat_any {w : World} {b1 b2 B : Nat} {A A2 : Option Addr} {D E : List Ent} {c c2 : Nat} (hB : w.heap[B]? = some (.cells #[.slice A D.length c, .slice A2 E.length c2] 106 (0, 0))) (hr1 : Rd w b1 A (flat D)) (hr2 : Rd w b2 A2 (flat E)) (hb1 : b1 ≤ w.heap.size) (hb2 : b2 ≤ w.heap.size) (hD : D.length ≤ 2000) (hE : E.length ≤ 2000) :
    Calls Tryz.prog 248 #[.slice (some ⟨B, 0, none⟩) 2 2] w fun e w' => ∃ s, e = .returned s ∧ RowE w' w.heap.size s (D ++ E) ∧ Below w.heap.size w w' := by
  have hBl : B < w.heap.size := (Array.getElem?_eq_some_iff.1 hB).1
  have x0 : w.cell? ⟨B, 0, none⟩ = some (.slice A D.length c) := cell_row hB 0
  have x1 : w.cell? ⟨B, 1, none⟩ = some (.slice A2 E.length c2) := cell_row hB 1
  have hg := grow_any w (D.length + E.length) (by omega)
  rw [show ((D.length + E.length : Nat) : Int) = (D.length : Int) + (E.length : Int) by omega] at hg
  have HG := Lib.hid hg; have H1 := Lib.hid hr1; have H2 := Lib.hid hr2; have HS1 := Lib.hid hb1; have HS2 := Lib.hid hb2; have HX0 := Lib.hid x0; have HX1 := Lib.hid x1
  have hl1 := flat_len D
  have hl2 := flat_len E
  have HL1 := Lib.hid hl1; have HL2 := Lib.hid hl2
  clear hg hr1 hr2 hb1 hb2 hB hl1 hl2
  go_enter Tryz.func248, Tryz.ntmps248
  go_wp2_with fail
  refine wp_loop_rounds 3 ?_
  rw [rounds_succ]
  go_wp2_with fail
  rw [rounds_succ]
  go_wp2_with fail
  rw [rounds_succ]
  go_wp2_with fail
  refine HG.out.mono ?_
  rintro e w1 ⟨s1, rfl, hr1, hb1⟩
  have HR1 := Lib.hid hr1; have HB1 := Lib.hid hb1
  have y0 : w1.cell? ⟨B, 0, none⟩ = some (.slice A D.length c) := (hb1.cell (p := ⟨B, 0, none⟩) hBl).trans HX0.out
  have y1 : w1.cell? ⟨B, 1, none⟩ = some (.slice A2 E.length c2) := (hb1.cell (p := ⟨B, 1, none⟩) hBl).trans HX1.out
  clear hr1 hb1 x0 x1
  go_wp2_with fail
  refine wp_loop_rounds 3 ?_
  rw [rounds_succ]
  go_wp2_with (at_builtin; refine wpList_append_row layE rfl _ _ rfl rfl HR1.out (fun u hu => by cases hu) HB1.out.size c rfl (H1.out.below HB1.out HS1.out) (flat_len D) (flat_one' _) (by omega) ?_; intro v2 w2 hr2 ht2 _; (rw [Nat.zero_add, List.nil_append] at hr2); (have hb2 := HR1.out.below_of ht2 HB1.out.size); (have z1 : w2.cell? ⟨B, 1, none⟩ = some (.slice A2 E.length c2) := (hb2.cell (p := ⟨B, 1, none⟩) hBl).trans y1); (have HR2 := Lib.hid hr2); (have HB2 := Lib.hid hb2); (clear hr2 ht2 hb2 y1))
  rw [rounds_succ]
  go_wp2_with (at_builtin; refine wpList_append_row layE rfl _ _ rfl rfl HR2.out (flat_one' _) (Nat.le_trans HB1.out.size HB2.out.size) c2 rfl (H2.out.below (HB1.out.trans HB2.out) HS2.out) (flat_len E) (flat_one' _) (by omega) ?_; intro v3 w3 hr3 ht3 _; (have HR3 := Lib.hid hr3); (have HT3 := Lib.hid ht3); (clear hr3 ht3))
  rw [rounds_succ]
  go_wp2_with fail
  go_ret
  refine ⟨_, rfl, ?_, (HB1.out.trans HB2.out).trans (HR2.out.below_of HT3.out (Nat.le_trans HB1.out.size HB2.out.size))⟩
  show Row w3 _ 3 _ (D ++ E).length _
  rw [List.length_append, flat_app]
  exact HR3.out
end Go.Proofs.YtieiiabbeglmfaaGreatDoor.S10
namespace Go.Proofs.YtieiiabbeglmfaaGreatDoor.S10
set_option maxRecDepth 100000
set_option maxHeartbeats 16000000
open Go.Proofs.YtieiiabbeglmfaaGreatDoor
open Go.RowKit
def Tells (w : World) (D : List Ent) (e : Ending) (w' : World) : Prop := ∃ A, e = .returned (.slice A D.length D.length) ∧ RowE w' w.heap.size (.slice A D.length D.length) D ∧ Below w.heap.size w w'
theorem joined_any {w : World} {b1 b2 : Nat} {A A2 : Option Addr} {D E : List Ent} (c c2 : Nat) (hr1 : Rd w b1 A (flat D)) (hr2 : Rd w b2 A2 (flat E)) (hb1 : b1 ≤ w.heap.size) (hb2 : b2 ≤ w.heap.size) (hD : D.length ≤ 2000) (hE : E.length ≤ 2000) :
    Calls Tryz.prog 224 #[.slice A D.length c, .slice A2 E.length c2] w (Tells w (D ++ E)) := by
  have hb := below1 w (.cells #[.slice A D.length c, .slice A2 E.length c2] 106)
  have hcon := concat_any (heap_alloc_new w (.cells #[.slice A D.length c, .slice A2 E.length c2] 106)) (hr1.below hb hb1) (hr2.below hb hb2) (Nat.le_trans hb1 hb.size) (Nat.le_trans hb2 hb.size) hD hE
  have HC := Lib.hid hcon; have HB := Lib.hid hb
  clear hcon hb hr1 hr2
  have hcl := fun A cap W h1 h2 => clip_any A (D ++ E).length cap W h1 h2
  have HCL := Lib.hid hcl
  clear hcl
  generalize hF : D ++ E = F at *
  clear hF
  go_enter Tryz.func224, Tryz.ntmps224
  go_wp2_with fail
  refine HC.out.mono ?_
  rintro e w1 ⟨s, rfl, hr, hb⟩
  obtain ⟨A3, cap3, rfl, h3, h4⟩ := hr.shape
  have HR := Lib.hid hr; have HB1 := Lib.hid (HB.out.trans (hb.mono HB.out.size))
  clear hr hb
  go_wp2_with fail
  refine (HCL.out A3 cap3 _ h3 h4).mono ?_
  rintro e w2 ⟨rfl, rfl⟩
  go_wp2_with fail
  go_ret
  exact ⟨_, rfl, HR.out.clip.base HB.out.size, HB1.out⟩
theorem mid_get (X Z : List Ent) (y : Ent) : (X ++ ([y] ++ Z))[X.length]! = y := by
  rw [getElem!_pos _ _ (by simp), List.getElem_append_right (Nat.le_refl _)]
  simp
theorem lies_key {w : World} {g o : Nat} {D M : List Ent} {key : Int} {k : Nat} (hk : k < M.length) (h : Lies w g o (flat (D ++ (M.take k).map (re key) ++ M.drop k))) (hs : (w.cell? ⟨g, o + (D.length + k) * 3 + 1, none⟩).isSome = true) :
    Lies (w.setCell ⟨g, o + (D.length + k) * 3 + 1, none⟩ (.int .u32 key)) g o (flat (D ++ (M.take (k + 1)).map (re key) ++ M.drop (k + 1))) := by
  obtain ⟨v, hv⟩ := Option.isSome_iff_exists.1 hs
  have e1 : M.drop k = M[k]! :: M.drop (k + 1) := by rw [getElem!_pos M k hk]; exact (List.drop_eq_getElem_cons hk)
  have e2 : (M.take (k + 1)).map (re key) = (M.take k).map (re key) ++ [re key M[k]!] := by rw [take_snoc hk]; simp
  have hl : (D ++ (M.take k).map (re key)).length = D.length + k := by simp; omega
  generalize M[k]! = d at *
  intro j u e
  by_cases hj : j = (D.length + k) * 3 + 1
  · subst hj
    have : u = .int .u32 key := by
      have hg := flat_get (D ++ (M.take (k + 1)).map (re key) ++ M.drop (k + 1)) (D.length + k) (by simp; omega)
      have e3 : (D ++ (M.take (k + 1)).map (re key) ++ M.drop (k + 1))[D.length + k]! = re key d := by
        rw [e2, show D ++ ((M.take k).map (re key) ++ [re key d]) ++ M.drop (k + 1) = (D ++ (M.take k).map (re key)) ++ ([re key d] ++ M.drop (k + 1)) by simp only [List.append_assoc], ← hl]
        exact mid_get _ _ _
      rw [e3] at hg
      have := hg.2.1
      rw [e] at this
      simpa [re] using this
    subst this
    rw [← Nat.add_assoc]
    exact World.cell?_setCell_same _ _ _ hv
  · rw [World.cell?_setCell_other _ _ _ _ (by simp; (try omega))]
    refine h j u ?_
    rw [e1]
    rw [e2] at e
    have f1 : flat (D ++ (M.take k).map (re key) ++ d :: M.drop (k + 1)) = flat (D ++ (M.take k).map (re key)) ++ (d.cs ++ flat (M.drop (k + 1))) := by rw [flat_app]; rfl
    have f2 : flat (D ++ ((M.take k).map (re key) ++ [re key d]) ++ M.drop (k + 1)) = flat (D ++ (M.take k).map (re key)) ++ ((re key d).cs ++ flat (M.drop (k + 1))) := by
      rw [← List.append_assoc, List.append_assoc, flat_app]; rfl
    rw [f1]
    rw [f2] at e
    have hfl := flat_len (D ++ (M.take k).map (re key))
    rw [hl] at hfl
    by_cases h1 : j < (D.length + k) * 3
    · rw [List.getElem?_append_left (by omega)] at e ⊢
      exact e
    · rw [List.getElem?_append_right (by omega)] at e ⊢
      rw [hfl] at e ⊢
      obtain ⟨i, rfl⟩ : ∃ i, j = (D.length + k) * 3 + i := ⟨j - (D.length + k) * 3, by omega⟩
      rw [Nat.add_sub_cancel_left] at e ⊢
      match i, e with
      | 0, e => exact e
      | 1, e => exact absurd rfl hj
      | 2, e => exact e
      | i + 3, e => exact e
theorem moved_any {w : World} {b1 b2 : Nat} {A A2 : Option Addr} {D M : List Ent} (c c2 : Nat) (key : Int) (hr1 : Rd w b1 A (flat D)) (hr2 : Rd w b2 A2 (flat M)) (hb1 : b1 ≤ w.heap.size) (hb2 : b2 ≤ w.heap.size) (hD : D.length ≤ 2000) (hM : M.length ≤ 2000) :
    Calls Tryz.prog 217 #[.slice A D.length c, .slice A2 M.length c2, .int .u32 key] w (Tells w (movedL D M key)) := by
  have hj := joined_any c c2 hr1 hr2 hb1 hb2 hD hM
  have HJ := Lib.hid hj
  clear hj hr1 hr2
  obtain ⟨n, hn⟩ : ∃ n, n = (D ++ M).length := ⟨_, rfl⟩
  have hn' : n = D.length + M.length := by rw [hn, List.length_append]
  unfold Tells at HJ ⊢
  rw [← hn] at HJ
  rw [moved_len, ← hn']
  have HN := Lib.hid hn'
  have hn4 : n ≤ 4000 := by omega
  have hd4 : D.length ≤ n := by omega
  clear hn hn'
  go_enter Tryz.func217, Tryz.ntmps217
  go_wp2_with fail
  refine HJ.out.mono ?_
  rintro e w1 ⟨A1, rfl, hr, hb⟩
  have HR := Lib.hid hr; have HB := Lib.hid hb
  clear hr hb
  go_wp2_with fail
  go_loopg [8] (n - D.length) (fun q s8 wx => ∃ k : Nat, D.length + k ≤ n ∧ q = n - (D.length + k) ∧ s8 = .int .i64 ((D.length + k : Nat) : Int) ∧ Below w.heap.size w wx ∧ Row wx w.heap.size 3 (.slice A1 n n) n (flat (D ++ (M.take k).map (re key) ++ M.drop k)))
  case atStart =>
    have h2 : Row w1 w.heap.size 3 (.slice A1 n n) (D ++ M).length (flat (D ++ M)) := HR.out
    rw [List.length_append, ← HN.out] at h2
    exact ⟨0, by omega, by omega, rfl, HB.out, by simpa using h2⟩
  case round =>
    obtain ⟨k, hk, rfl, rfl, hb, hrow⟩ := hrel
    have HB2 := Lib.hid hb; have HROW := Lib.hid hrow
    by_cases hkn : D.length + k < n
    · obtain ⟨A', cap', e, h0, h1, h2, h3, h4⟩ := hrow
      cases e
      cases A1 with
      | none => have := h3 rfl; omega
      | some ad =>
        obtain ⟨g, o, rfl, hg, hlt, hl, hc⟩ := h4 ad rfl
        have hc1 := hc ((D.length + k) * 3 + 1) (by omega)
        rw [← Nat.add_assoc] at hc1
        obtain ⟨hs1, hf1⟩ := hc1
        have hnew := lies_key (by have := HN.out; omega) hl hs1
        have HNEW := Lib.hid hnew
        obtain ⟨v1, hv1⟩ := Option.isSome_iff_exists.1 hs1
        obtain ⟨m, hm⟩ : ∃ m, m = D.length + k := ⟨_, rfl⟩
        rw [← hm] at hv1 hf1 hkn ⊢
        have HM := Lib.hid hm
        clear hm h0 h1 h2 h3 h4 hl hc hs1 hnew hb hk
        go_wp2_with fail
        go_roundg (n - (m + 1))
        case measure => have := HM.out; omega
        case rel =>
          have t : Turns (fun k => k = g) wr (wr.setCell ⟨g, o + m * 3 + 1, none⟩ (.int .u32 key)) := (Turns.refl _ _).setCell _ _ rfl
          have hsz : (wr.setCell ⟨g, o + m * 3 + 1, none⟩ (.int .u32 key)).heap.size = wr.heap.size := by simp [World.setCell]
          refine ⟨k + 1, by have := HM.out; omega, by have := HM.out; omega, by have := HM.out; go_num, HB2.out.trans (t.below HB2.out.size (fun k hk e => by omega)), ?_⟩
          obtain ⟨A', cap', e, h0, h1, h2, h3, h4⟩ := HROW.out
          cases e
          obtain ⟨g', o', e', hg', hlt', hl', hc'⟩ := h4 _ rfl
          cases e'
          have hk' := HM.out
          refine ⟨_, _, rfl, ?_, h1, h2, h3, fun ad e => ?_⟩
          · rw [flat_len, List.length_append, List.length_append, List.length_map, List.length_take, List.length_drop]
            have := HN.out
            omega
          · cases e
            refine ⟨g, o, rfl, hg, by rw [hsz]; exact hlt, ?_, fun j hj => ?_⟩
            · rw [hk']; exact HNEW.out
            · refine ⟨?_, (World.frozen?_setCell _ _ _ _).trans (hc' j hj).2⟩
              have := some_setCells g [.int .u32 key] (o + m * 3 + 1) wr ⟨g, o + j, none⟩ (hc' j hj).1
              exact this
    · obtain rfl : D.length + k = n := by omega
      clear hb hrow
      go_wp2_with fail
      go_ret
      refine ⟨_, rfl, ?_, HB2.out⟩
      have := HROW.out
      obtain rfl : k = M.length := by have := HN.out; omega
      rw [List.take_length, List.drop_length, List.append_nil] at this
      show Row wr w.heap.size 3 _ (movedL D M key).length _
      rw [moved_len]
      exact this
end Go.Proofs.YtieiiabbeglmfaaGreatDoor.S10
namespace Go.Proofs.YtieiiabbeglmfaaGreatDoor.S10
set_option maxRecDepth 100000
set_option maxHeartbeats 16000000
open Go.Proofs.YtieiiabbeglmfaaGreatDoor
open Go.RowKit
theorem keep3T {S : Nat → Prop} {w w' : World} {g o : Nat} {d : Ent} (t : Turns S w w') (hg : g < w.heap.size) (hn : ¬ S g) (h : w.cell? ⟨g, o, none⟩ = some (.int .i64 d.t) ∧ w.cell? ⟨g, o + 1, none⟩ = some (.int .u32 d.k) ∧ w.cell? ⟨g, o + 2, none⟩ = some (.int .u64 d.z)) :
    w'.cell? ⟨g, o, none⟩ = some (.int .i64 d.t) ∧ w'.cell? ⟨g, o + 1, none⟩ = some (.int .u32 d.k) ∧ w'.cell? ⟨g, o + 2, none⟩ = some (.int .u64 d.z) :=
  ⟨(t.cell hg hn).trans h.1, (t.cell hg hn).trans h.2.1, (t.cell hg hn).trans h.2.2⟩
theorem flat_split (D : List Ent) (k : Nat) : flat D = flat (D.take k) ++ flat (D.drop k) := by rw [← flat_app, List.take_append_drop]
theorem Lies.take {w : World} {g o : Nat} {D : List Ent} (h : Lies w g o (flat D)) (k : Nat) : Lies w g o (flat (D.take k)) := fun j u e => by
  refine h j u ?_
  rw [flat_split D k]
  rw [List.getElem?_append_left (List.getElem?_eq_some_iff.1 e).1]
  exact e
theorem Lies.drop {w : World} {g o : Nat} {D : List Ent} (h : Lies w g o (flat D)) {k : Nat} (hk : k ≤ D.length) : Lies w g (o + k * 3) (flat (D.drop k)) := fun j u e => by
  have h1 : (flat (D.take k)).length = k * 3 := by rw [flat_len, List.length_take]; omega
  have := h (k * 3 + j) u ?_
  · rwa [← Nat.add_assoc] at this
  · rw [flat_split D k, List.getElem?_append_right (by omega), h1, Nat.add_sub_cancel_left]
    exact e
theorem cut_none {D : List Ent} {p : Int} (h : p < 0 ∨ (D.length : Int) ≤ p) : cutL D p = D ∧ cutE D p = default ∧ cutB D p = false := by
  unfold cutL cutE cutB
  refine ⟨?_, if_neg (by omega), ?_⟩
  · split
    · exact List.eraseIdx_of_length_le (by omega)
    · rfl
  · rcases h with h | h
    · rw [decide_eq_false (show ¬ 0 ≤ p by omega)]; rfl
    · rw [decide_eq_false (show ¬ p < (D.length : Int) by omega), Bool.and_false]
theorem cut_some {D : List Ent} {k : Nat} (h : k < D.length) : cutL D (k : Int) = D.take k ++ D.drop (k + 1) ∧ cutE D (k : Int) = D[k]! ∧ cutB D (k : Int) = true := by
  unfold cutL cutE cutB
  refine ⟨?_, ?_, ?_⟩
  · rw [if_pos (Int.natCast_nonneg _), Int.toNat_natCast, List.eraseIdx_eq_take_drop_succ]
  · rw [if_pos (by omega), Int.toNat_natCast]
  · rw [decide_eq_true (Int.natCast_nonneg _), decide_eq_true (show (k : Int) < (D.length : Int) by omega)]; rfl
def Cuts (w : World) (D : List Ent) (p : Int) (e : Ending) (w' : World) : Prop := ∃ A, e = .returned (.tuple #[ag (cutE D p), .slice A (cutL D p).length (cutL D p).length, .bool (cutB D p)]) ∧ RowE w' w.heap.size (.slice A (cutL D p).length (cutL D p).length) (cutL D p) ∧ Below w.heap.size w w'
theorem cut_out {w : World} {b1 : Nat} {A : Option Addr} {D : List Ent} (c : Nat) (p : Int) (hr : Rd w b1 A (flat D)) (hb1 : b1 ≤ w.heap.size) (hlen : D.length ≤ 1000) (h : p < 0 ∨ (D.length : Int) ≤ p) :
    Calls Tryz.prog 193 #[.slice A D.length c, .int .i64 p] w (Cuts w D p) := by
  obtain ⟨h1, h2, h3⟩ := cut_none h
  unfold Cuts
  rw [h1, h2, h3]
  obtain ⟨w1, hw1⟩ : ∃ w1, w1 = w.alloc (.cells (ec default) 121) := ⟨_, rfl⟩
  have hb : Below w.heap.size w w1 := by rw [hw1]; exact below1 w _
  have hx : w1.heap[w.heap.size]? = some (.cells (ec default) 121 (0, 0)) := by rw [hw1]; exact heap_alloc_new w _
  have hsz : w.heap.size < w1.heap.size := by rw [hw1]; simp
  have hj := joined_any (E := []) (A2 := none) c 0 (hr.below hb hb1) Rd.nil (Nat.le_trans hb1 hb.size) (Nat.zero_le _) (show D.length ≤ 2000 by omega) (Nat.zero_le _)
  rw [List.append_nil] at hj
  unfold Tells at hj
  have HJ := Lib.hid hj; have HB := Lib.hid hb; have HX := Lib.hid hx; have HS := Lib.hid hsz
  clear hj hb hx hr hb1 h1 h2 h3 hsz
  obtain ⟨n, hn⟩ : ∃ n, n = D.length := ⟨_, rfl⟩
  rw [← hn] at HJ h ⊢
  have HN := Lib.hid hn
  have hn6 : n ≤ 1000 := by omega
  clear hn hlen
  have q : (p < 0) ∨ (¬ p < 0 ∧ (n : Int) ≤ p) := by omega
  clear h
  subst hw1
  rcases q with q | ⟨q, q2⟩
  all_goals
    go_enter Tryz.func193, Tryz.ntmps193
    go_wp2_with fail
    refine HJ.out.mono ?_
    rintro e w2 ⟨A3, rfl, hr3, hb3⟩
    have HB3 := Lib.hid hb3
    have hx3 := (hb3.block _ HS.out).trans HX.out
    have x0 : w2.cell? ⟨w.heap.size, 0, none⟩ = some (.int .i64 (default : Ent).t) := cell_row hx3 0
    have x1 : w2.cell? ⟨w.heap.size, 1, none⟩ = some (.int .u32 (default : Ent).k) := cell_row hx3 1
    have x2 : w2.cell? ⟨w.heap.size, 2, none⟩ = some (.int .u64 (default : Ent).z) := cell_row hx3 2
    have f0 : w2.frozen? ⟨w.heap.size, 0, none⟩ = false := froz_row hx3 0
    have f1 : w2.frozen? ⟨w.heap.size, 1, none⟩ = false := froz_row hx3 1
    have f2 : w2.frozen? ⟨w.heap.size, 2, none⟩ = false := froz_row hx3 2
    have hrw := row_set hx3 0 (.int .i64 0)
    have hrw2 := row_set hrw 1 (.int .u32 0)
    have hrw3 := row_set hrw2 2 (.int .u64 0)
    have S0 := Lib.hid (show _ = some (Value.int .i64 0) from cell_row hrw 0); have S1 := Lib.hid (show _ = some (Value.int .u32 0) from cell_row hrw2 1); have S2 := Lib.hid (show _ = some (Value.int .u64 0) from cell_row hrw3 2)
    have HX3 := Lib.hid hx3; have HR3 := Lib.hid hr3
    clear hr3 hb3 hrw hrw2 hrw3 hx3
    go_wp2_with fail
    exact bodyPost_ret (v := .tuple #[.agg #[.int .i64 0, .int .u32 0, .int .u64 0], .slice A3 n n, .bool false]) (by simp [results, Tryz.results193, go_sem, S0.out, S1.out, S2.out]) rfl ⟨A3, rfl, (HR3.out.keep (turns3 w2 w.heap.size default) (fun g hg e => by have := (HR3.out.lt g hg).1; have := HS.out; omega)).base (by have := HS.out; omega), (HB.out.trans (HB3.out.mono HB.out.size)).trans ((turns3 w2 w.heap.size default).below (by have := HB3.out.size; have := HS.out; omega) (fun g hg (e : g = w.heap.size) => by omega))⟩
theorem cut_in {w : World} {b1 : Nat} {A : Option Addr} {D : List Ent} (c k : Nat) (hr : Rd w b1 A (flat D)) (hb1 : b1 ≤ w.heap.size) (hlen : D.length ≤ 1000) (hc : D.length ≤ c) (hc2 : c ≤ 9223372036854775807) (hk : k < D.length) :
    Calls Tryz.prog 193 #[.slice A D.length c, .int .i64 (k : Int)] w (Cuts w D (k : Int)) := by
  obtain ⟨h1, h2, h3⟩ := cut_some hk
  obtain ⟨g, o, rfl, hg, hl⟩ := hr.more_ent (by omega)
  obtain ⟨w1, hw1⟩ : ∃ w1, w1 = w.alloc (.cells (ec default) 121) := ⟨_, rfl⟩
  have hb : Below w.heap.size w w1 := by rw [hw1]; exact below1 w _
  have hx : w1.heap[w.heap.size]? = some (.cells (ec default) 121 (0, 0)) := by rw [hw1]; exact heap_alloc_new w _
  have hsz : w.heap.size < w1.heap.size := by rw [hw1]; simp
  have hl1 : Lies w1 g o (flat D) := hl.of fun j => hb.cell (p := ⟨g, o + j, none⟩) (by show g < w.heap.size; omega)
  obtain ⟨c0, c1, c2⟩ := hl1.ent hk
  have hgl : g < w1.heap.size := by omega
  have HGW : Hid (g < w.heap.size) := (show g < w.heap.size by omega)
  have hj : ∀ W, Turns (fun b => b = w.heap.size) w1 W → ∀ A2, (k + 1 < D.length → A2 = some ⟨g, o + (k + 1) * 3, none⟩) → Calls Tryz.prog 224 #[.slice (some ⟨g, o, none⟩) k c, .slice A2 (D.length - (k + 1)) (c - (k + 1))] W (Tells W (cutL D (k : Int))) := fun W hW A2 ho2 => by
    have hlW : Lies W g o (flat D) := hl1.of fun j => hW.cell hgl (by omega)
    have hr1 : Rd W w1.heap.size (some ⟨g, o, none⟩) (flat (D.take k)) := fun _ => ⟨g, o, rfl, hgl, hlW.take k⟩
    have hr2 : Rd W w1.heap.size A2 (flat (D.drop (k + 1))) := fun hp => by
      rw [flat_len, List.length_drop] at hp
      have := ho2 (by omega)
      subst this
      exact ⟨g, _, rfl, hgl, hlW.drop (by omega)⟩
    have := joined_any (A := some ⟨g, o, none⟩) (A2 := A2) c (c - (k + 1)) hr1 hr2 hW.size hW.size (by rw [List.length_take]; omega) (by rw [List.length_drop]; omega)
    rw [List.length_take, List.length_drop, Nat.min_eq_left (by omega), ← h1] at this
    exact this
  unfold Cuts
  rw [h2, h3]
  have HJ := Lib.hid hj; have HB := Lib.hid hb; have HX := Lib.hid hx; have HS := Lib.hid hsz
  obtain ⟨n, hn⟩ : ∃ n, n = D.length := ⟨_, rfl⟩
  rw [← hn] at HJ hk hc ⊢
  have hn6 : n ≤ 1000 := by omega
  generalize cutL D (k : Int) = F at *
  generalize D[k]! = d at *
  have hg1 : ¬ ((k : Int) < 0) := by omega
  have hg2 : ¬ ((n : Int) ≤ (k : Int)) := by omega
  have hkc : k ≤ c := by omega
  have hkc1 : k + 1 ≤ c := by omega
  have hkn1 : k + 1 ≤ n := by omega
  have hwr : IntKind.i64.wrap ((k : Int) + 1) = (k : Int) + 1 := by rw [IntKind.wrap_i64]; omega
  have htn : ((k : Int) + 1).toNat = k + 1 := by omega
  have hz0 : (0 : Int) ≤ (k : Int) + 1 := by omega
  have hz1 : (k : Int) + 1 ≤ (n : Int) := by omega
  clear hj hb hx hr hb1 h1 h2 h3 hsz hl hl1 hn hlen
  go_enter Tryz.func193, Tryz.ntmps193
  go_upto_region 3 with (fail)
  have e1 : w.alloc (.cells #[.int .i64 0, .int .u32 0, .int .u64 0] 121) = w1 := hw1.symm
  rw [e1]
  clear hw1 e1
  refine wp_region_held_drew (S := fun w' => (w'.cell? ⟨g, o + k * 3, none⟩ = some (.int .i64 d.t) ∧ w'.cell? ⟨g, o + k * 3 + 1, none⟩ = some (.int .u32 d.k) ∧ w'.cell? ⟨g, o + k * 3 + 2, none⟩ = some (.int .u64 d.z)) ∧ Turns (fun b => b = w.heap.size) w1 w' ∧ ∃ e : Ent, w'.heap[w.heap.size]? = some (.cells (ec e) 121 (0, 0))) (by kernel_rfl) ?_ (fun hHeld => ?_)
  · exact ⟨⟨c0, c1, c2⟩, (Turns.refl _ w1).drew, _, HX.out⟩
  refine tA 0 ⟨some 18, .move (.tmp 0), 106, "lines.go:52", #[], none⟩ ?v0 ?r0
  (try simp only [Act.put, tC, tD, tE])
  refine tA 1 ⟨some 19, .move (.tmp 1), 3, "lines.go:52", #[], none⟩ ?v1 ?r1
  (try simp only [Act.put, tC, tD, tE])
  refine tA 2 ⟨some 20, .indexAddr 106 (.tmp 18) (.tmp 19), 0, "lines.go:52", #[⟨0, .data⟩, ⟨1, .data⟩], none⟩ ?v2 ?r2
  (try simp only [Act.put, tC, tD, tE])
  refine tA 3 ⟨some 21, .load 121 (.tmp 20), 121, "lines.go:52", #[⟨2, .data⟩], none⟩ ?v3 ?r3
  (try simp only [Act.put, tC, tD, tE])
  refine tA 4 ⟨some 22, .move (.tmp 0), 106, "lines.go:52", #[], none⟩ ?v4 ?r4
  (try simp only [Act.put, tC, tD, tE])
  refine tA 5 ⟨some 23, .move (.tmp 1), 3, "lines.go:52", #[], none⟩ ?v5 ?r5
  (try simp only [Act.put, tC, tD, tE])
  refine tA 6 ⟨some 24, .slice 106 (.tmp 22) none (some (.tmp 23)) none, 106, "lines.go:52", #[⟨4, .data⟩, ⟨5, .data⟩], none⟩ ?v6 ?r6
  (try simp only [Act.put, tC, tD, tE])
  refine tA 7 ⟨some 25, .move (.tmp 0), 106, "lines.go:52", #[], none⟩ ?v7 ?r7
  (try simp only [Act.put, tC, tD, tE])
  refine tA 8 ⟨some 26, .move (.tmp 1), 3, "lines.go:52", #[], none⟩ ?v8 ?r8
  (try simp only [Act.put, tC, tD, tE])
  refine tA 9 ⟨some 27, .binOp .add 3 (.tmp 26) (.const (.int .i64 1)) 3, 3, "lines.go:52", #[⟨8, .data⟩], none⟩ ?v9 ?r9
  (try simp only [Act.put, tC, tD, tE])
  refine tA 10 ⟨some 28, .slice 106 (.tmp 25) (some (.tmp 27)) none none, 106, "lines.go:52", #[⟨7, .data⟩, ⟨9, .data⟩], none⟩ ?v10 ?r10
  (try simp only [Act.put, tC, tD, tE])
  refine wpAnyH_ready (rs := [11]) (by kernel_rfl) (by simp) ?_
  refine AllReadyH.cons (o := ⟨some 29, .call ⟨.value (.func 224), #[.tmp 24, .tmp 28], #[106, 106]⟩, 106, "lines.go:52", #[⟨6, .data⟩, ⟨10, .data⟩], none⟩) rfl (fun Kq hKq => ?_) AllReadyH.nil
  go_simp
  (refine (HJ.out _ hHeld.2.1 (if c = k + 1 then some ⟨g, o, none⟩ else some ⟨g, o + (k + 1) * 3, none⟩) (fun h => if_neg (by omega))).mono ?_; rintro e w2 ⟨A3, rfl, hr3, hb3⟩)
  refine hKq.out _ _ ?_ (fun hHeld => ?_)
  · exact ⟨keep3 hb3 (by have := hHeld.2.1.size; simp at this ⊢; omega) hHeld.1, hHeld.2.1.trans (Turns.of_below (S := fun _ => False) hb3) (fun _ _ e => e.elim), default, (hb3.block _ (by have := hHeld.2.1.size; have := HS.out; simp at this ⊢; omega)).trans HX.out⟩
  clear hKq Kq
  (try simp only [Act.put, tC, tD, tE])
  refine wpAnyH_ready (rs := [12]) (by kernel_rfl) (by simp) ?_
  refine AllReadyH.cons (o := ⟨none, .store 121 (.tmp 4) (.tmp 21), 0, "lines.go:52", #[⟨3, .data⟩, ⟨11, .chain⟩, ⟨0, .phase⟩, ⟨1, .phase⟩, ⟨2, .phase⟩, ⟨3, .phase⟩, ⟨4, .textOnly .lateStores⟩, ⟨5, .textOnly .lateStores⟩, ⟨6, .textOnly .lateStoresUnsure⟩, ⟨7, .textOnly .lateStores⟩, ⟨8, .textOnly .lateStores⟩, ⟨9, .textOnly .lateStores⟩, ⟨10, .textOnly .lateStoresUnsure⟩, ⟨11, .textOnly .lateStoresUnsure⟩], none⟩) rfl (fun Kq hKq => ?_) AllReadyH.nil
  obtain ⟨e9, he9⟩ := hHeld.2.2; have y0 : w2.cell? ⟨w.heap.size, 0, none⟩ = some (.int .i64 e9.t) := cell_row he9 0; have y1 : w2.cell? ⟨w.heap.size, 1, none⟩ = some (.int .u32 e9.k) := cell_row he9 1; have y2 : w2.cell? ⟨w.heap.size, 2, none⟩ = some (.int .u64 e9.z) := cell_row he9 2; have f0 : w2.frozen? ⟨w.heap.size, 0, none⟩ = false := froz_row he9 0; have f1 : w2.frozen? ⟨w.heap.size, 1, none⟩ = false := froz_row he9 1; have f2 : w2.frozen? ⟨w.heap.size, 2, none⟩ = false := froz_row he9 2; have hst := ent_store (d := d) he9; (have HST := Lib.hid hst); clear hst; go_simp
  refine hKq.out _ _ ?_ (fun hHeld => ?_)
  · exact ⟨keep3T (turns3 w2 w.heap.size d) (by have := hHeld.2.1.size; omega) (Nat.ne_of_lt HGW.out) hHeld.1, hHeld.2.1.trans (turns3 w2 w.heap.size d) (fun _ _ e => e), d, HST.out⟩
  clear hKq Kq
  (try simp only [Act.put, tC, tD, tE])
  refine tA 13 ⟨some 5, .assign (.tmp 29), 106, "lines.go:52", #[⟨11, .data⟩, ⟨12, .chain⟩, ⟨0, .phase⟩, ⟨1, .phase⟩, ⟨2, .phase⟩, ⟨3, .phase⟩, ⟨4, .phase⟩, ⟨5, .phase⟩, ⟨6, .phase⟩, ⟨7, .phase⟩, ⟨8, .phase⟩, ⟨9, .phase⟩, ⟨10, .phase⟩, ⟨11, .phase⟩, ⟨12, .phase⟩], none⟩ ?v13 ?r13
  (try simp only [Act.put, tC, tD, tE])
  refine tA 14 ⟨some 6, .assign (.const (.bool true)), 4, "lines.go:52", #[⟨13, .chain⟩, ⟨0, .phase⟩, ⟨1, .phase⟩, ⟨2, .phase⟩, ⟨3, .phase⟩, ⟨4, .phase⟩, ⟨5, .phase⟩, ⟨6, .phase⟩, ⟨7, .phase⟩, ⟨8, .phase⟩, ⟨9, .phase⟩, ⟨10, .phase⟩, ⟨11, .phase⟩, ⟨12, .phase⟩, ⟨13, .phase⟩], none⟩ ?v14 ?r14
  (try simp only [Act.put, tC, tD, tE])
  refine wpAnyH_done (by kernel_rfl) ?_ _
  have hrw := row_set he9 0 (.int .i64 d.t)
  have hrw2 := row_set hrw 1 (.int .u32 d.k)
  have hrw3 := row_set hrw2 2 (.int .u64 d.z)
  have S0 := Lib.hid (show _ = some (Value.int .i64 d.t) from cell_row hrw 0); have S1 := Lib.hid (show _ = some (Value.int .u32 d.k) from cell_row hrw2 1); have S2 := Lib.hid (show _ = some (Value.int .u64 d.z) from cell_row hrw3 2)
  have hb3' : Below w1.heap.size w1 w2 := ((Below.refl w1.heap.size w1).drew).trans hb3
  have hr3' : RowE w2 w1.heap.size (.slice A3 F.length F.length) F := hr3
  have HR3 := Lib.hid hr3'; have HB3 := Lib.hid hb3'
  clear hb3' hr3'
  clear hHeld hr3 hb3 he9 hrw hrw2 hrw3
  go_wp2_with fail
  all_goals exact bodyPost_ret (v := .tuple #[ag d, .slice A3 F.length F.length, .bool true]) (by simp [results, Tryz.results193, go_sem, S0.out, S1.out, S2.out]) rfl ⟨A3, rfl, (HR3.out.keep (turns3 w2 w.heap.size d) (fun g hg (e : g = w.heap.size) => by have := (HR3.out.lt g hg).1; have := HS.out; omega)).base (by have := HS.out; omega), (HB.out.trans ((HB3.out.mono HB.out.size))).trans ((turns3 w2 w.heap.size d).below (by have := HB3.out.size; have := HS.out; omega) (fun g hg (e : g = w.heap.size) => by omega))⟩
theorem cut_any {w : World} {b1 : Nat} {A : Option Addr} {D : List Ent} (c : Nat) (p : Int) (hr : Rd w b1 A (flat D)) (hb1 : b1 ≤ w.heap.size) (hlen : D.length ≤ 1000) (hc : D.length ≤ c) (hc2 : c ≤ 9223372036854775807) :
    Calls Tryz.prog 193 #[.slice A D.length c, .int .i64 p] w (Cuts w D p) := by
  by_cases h : p < 0 ∨ (D.length : Int) ≤ p
  · exact cut_out c p hr hb1 hlen h
  · obtain ⟨k, rfl⟩ := Int.eq_ofNat_of_zero_le (show 0 ≤ p by omega)
    exact cut_in c k hr hb1 hlen hc hc2 (by omega)
end Go.Proofs.YtieiiabbeglmfaaGreatDoor.S10
