/- Texts of this seat, one behind the other. -/
import Derived.Test.YtokplfkhpjcfcaaGreatMLawVoid161
import Derived.Test.YtokplfkhpjcfcaaGreatMLawVoid1630
set_option linter.unusedVariables false
set_option linter.unusedSimpArgs false
set_option linter.unusedVariables false
set_option linter.unusedSimpArgs false
namespace Go.Proofs.YtokplfkhpjcfcaaGreat.S16
set_option maxRecDepth 100000
set_option maxHeartbeats 16000000
open Go.Proofs.YtokplfkhpjcfcaaGreat Go.Proofs.YtokplfkhpjcfcaaGreat.S11 Go.Proofs.YtokplfkhpjcfcaaGreat.S12 Go.Proofs.YtokplfkhpjcfcaaGreat.S13 Go.Proofs.YtokplfkhpjcfcaaGreat.S14 Go.Proofs.YtokplfkhpjcfcaaGreat.S15
open Go.RowKit
section
variable {w0 w w' : World} {base WB : Nat} {M : Sd} {r : List Part} {j u v U B : Nat} {l l' : Rows} {X : Wm} {P : Pr}
theorem set_len {r : List Part} {u v k : Nat} {p q : Part} (h : k < r.length) : k < ((r.set u p).set v q).length := by rw [List.length_set, List.length_set]; exact h
theorem pline_1 {t a b tw : Nat} {K1 K2 : Lk} {F : Fr} (h : PairAt w0 w base WB M r j u v ⟨1, t, a, b, tw, K1, K2, F⟩ B X) (ht : t < 64) (ha : a < 4294967296) (hb : b < 4294967296) (hn : M.n ≤ 1000000000) :
    Calls Tryz.prog 66 #[.pointer (some ⟨B, 6, none⟩), Pw WB] w fun e w' => e = .returned (.tuple #[]) ∧ PStep w0 w' base WB M r j u v ⟨1, t, a, b, tw, K1, K2, F⟩ B := by
  obtain ⟨l, hw, LB, XC, TC, i, kl, kx, kt, p1, q1, p2, q2, row, hl0, hll, hrow, hlx, hlt, n1, n2, n3⟩ := h.at'
  have hc := wq_cell hw hl0
  have hw1 := hw.put 0 hl0 6 (.slice (some ⟨LB, i, none⟩) 0 0) rfl
  have hst := look_step hw1 hn h.ju h.jv h.uv h.hu h.hv rfl ht ha hb (List.getElem?_set_self (List.getElem?_eq_some_iff.1 hl0).1) (set_at2 hlx n2) (set_at2 hlt n3) n2 n3
  refine (todo_look (LB := LB) (i := i) (n := 0) (c := 0) (Q := fun bo w' => bo = true ∧ ∃ X' U1 U2 OR V1 XC TC KB OB V2 LB, Wq w0 w' base WB (M.acc 1 0 (S2.look M.L 0)) ((r.set u (lockP U1 (lk1 t (lokN (loK a b (S2.look M.L 0)) (S2.look M.L 0))))).set v (lockP U2 (lk1 t (lokN (hiK a b (S2.look M.L 0)) (S2.look M.L 0))))) j (twoL B OR V1 XC TC KB OB V2 LB a b t (S2.look M.L 0) U1 U2 0 3) X') (by omega) (by omega) (by omega) hc.1 hc.2 ?_ (hst.mono ?_) ?_).mono ?_
  · have hb1 := hw1.blk kl (set_at2 hll n1)
    show (w.setCell ⟨B, 6, none⟩ (.slice (some ⟨LB, i, none⟩) 0 0)).cell? ⟨LB, i, none⟩ = _
    exact (cell_row hb1 i).trans hrow
  · rintro e w' ⟨rfl, h'⟩
    exact ⟨true, rfl, rfl, h'⟩
  · rintro w' ⟨e, _⟩
    cases e
  · rintro e w' ⟨rfl, ⟨_, X', U1, U2, OR, V1, XC, TC, KB, OB, V2, LB, h'⟩ | ⟨w2, ⟨e, _⟩, _⟩⟩
    · refine ⟨rfl, lockP U1 (lk1 t (lokN (loK a b (S2.look M.L 0)) (S2.look M.L 0))), lockP U2 (lk1 t (lokN (hiK a b (S2.look M.L 0)) (S2.look M.L 0))), X', h.ju, h.jv, h.uv, set_len h.hu, set_len h.hv, _, h', ?_⟩
      exact ⟨OR, V1, XC, TC, KB, OB, V2, LB, U1, U2, rfl, set_oth (List.getElem?_set_self h.hu) (Ne.symm h.uv), List.getElem?_set_self (by rw [List.length_set]; exact h.hv)⟩
    · cases e
theorem pline_3 {t a b tw : Nat} {K1 K2 : Lk} {F : Fr} (h : PairAt w0 w base WB M r j u v ⟨3, t, a, b, tw, K1, K2, F⟩ B X) (hn : M.n ≤ 1000000000) :
    Calls Tryz.prog 66 #[.pointer (some ⟨B, 6, none⟩), Pw WB] w fun e w' => e = .returned (.tuple #[]) ∧ PStep w0 w' base WB M r j u v ⟨3, t, a, b, tw, K1, K2, F⟩ B := by
  obtain ⟨l, hw, OR, V1, XC, TC, KB, OB, V2, LB, U1, U2, rfl, hr1, hr2⟩ := h.at'
  have hc := wq_cell hw rfl
  have hw1 : Wq w0 (w.setCell ⟨B, 6, none⟩ (.slice (some ⟨LB, 2, none⟩) 1 1)) base WB M r j (twoL B OR V1 XC TC KB OB V2 LB a b t tw U1 U2 2 1) X := hw.put 0 rfl 6 (.slice (some ⟨LB, 2, none⟩) 1 1) rfl
  have hfin : Calls Tryz.prog 147 #[Pw WB, Pw KB, Pw OB, Pw XC, Pw TC] (w.setCell ⟨B, 6, none⟩ (.slice (some ⟨LB, 2, none⟩) 1 1)) fun e w' => ∃ bo, e = .returned (.bool bo) ∧ bo = true ∧ PStep w0 w' base WB M r j u v ⟨3, t, a, b, tw, K1, K2, F⟩ B := by
    by_cases hx : S2.look M.L 0 = tw
    · by_cases hs : bktN a tw = bktN b tw
      · have e : prE M ⟨3, t, a, b, tw, K1, K2, F⟩ = ⟨0, t, a, b, tw, K1, K2, F⟩ := by
          show (if S2.look M.L 0 = tw then (⟨if bktN a tw = bktN b tw then 0 else 4, t, a, b, tw, K1, K2, F⟩ : Pr) else _) = _
          rw [if_pos hx, if_pos hs]
        have hlh : bktN (loK a b tw) tw = bktN (hiK a b tw) tw := by
          by_cases g : bktN b tw < bktN a tw
          · rw [hs] at g; exact absurd g (Nat.lt_irrefl _)
          · rw [show loK a b tw = a from if_neg g, show hiK a b tw = b from if_neg g]; exact hs
        refine (ask_same hw1 hn rfl hx (k0 := 0) (kk := 5) (kx := 3) (ko := 6) (B := B) rfl rfl rfl rfl ⟨rfl, congrArg Nat.cast hlh⟩).mono ?_
        rintro e' w' ⟨rfl, X', h'⟩
        exact ⟨true, rfl, rfl, PStep.none e (X := X') ⟨h.ju, h.jv, h.uv, h.hu, h.hv, _, h', none, 0, rfl⟩⟩
      · have e : prE M ⟨3, t, a, b, tw, K1, K2, F⟩ = ⟨4, t, a, b, tw, K1, K2, F⟩ := by
          show (if S2.look M.L 0 = tw then (⟨if bktN a tw = bktN b tw then 0 else 4, t, a, b, tw, K1, K2, F⟩ : Pr) else _) = _
          rw [if_pos hx, if_neg hs]
        have hlh : ¬ ((bitsN tw : Int) = (bitsN tw : Int) ∧ (bktN (loK a b tw) tw : Int) = (bktN (hiK a b tw) tw : Int)) := by
          rintro ⟨_, g0⟩
          have g1 : bktN (loK a b tw) tw = bktN (hiK a b tw) tw := Int.ofNat.inj g0
          by_cases g : bktN b tw < bktN a tw
          · rw [show loK a b tw = b from if_pos g, show hiK a b tw = a from if_pos g] at g1; exact hs g1.symm
          · rw [show loK a b tw = a from if_neg g, show hiK a b tw = b from if_neg g] at g1; exact hs g1
        refine (ask_two hw1 hn rfl hx (k0 := 0) (kk := 5) (kx := 3) (ko := 6) (B := B) rfl rfl rfl rfl hlh).mono ?_
        rintro e' w' ⟨rfl, X', h'⟩
        exact ⟨true, rfl, rfl, PStep.none e (X := X') ⟨h.ju, h.jv, h.uv, h.hu, h.hv, _, h', OR, V1, XC, TC, KB, OB, V2, LB, U1, U2, rfl, hr1, hr2⟩⟩
    · have e : prE M ⟨3, t, a, b, tw, K1, K2, F⟩ = ⟨5, t, a, b, tw, K1, K2, fr0 (lokN (loK a b tw) tw)⟩ := by
        show (if S2.look M.L 0 = tw then _ else (⟨5, t, a, b, tw, K1, K2, fr0 (lokN (loK a b tw) tw)⟩ : Pr)) = _
        rw [if_neg hx]
      refine (ask_else hw1 hn h.ju h.hu rfl hx (k0 := 0) (kk := 5) (kx := 3) (ko := 6) (kt := 4) (B := B) rfl rfl rfl rfl rfl (lok_lock (loK a b tw) tw) ⟨by decide, by decide, by decide⟩).mono ?_
      rintro e' w' ⟨rfl, X', V, U, XC', TC', LB', h'⟩
      exact ⟨true, rfl, rfl, PStep.one e (X := X') (q := freeP U (fr0 (lokN (loK a b tw) tw))) ⟨h.ju, h.jv, h.uv, by rw [List.length_set]; exact h.hu, by rw [List.length_set]; exact h.hv, _, h', V, U, XC', TC', LB', _, _, _, _, rfl, List.getElem?_set_self h.hu⟩ h.hv⟩
  refine (todo_ask (LB := LB) (i := 1) (n := 1) (c := 1) (Q := fun bo w' => bo = true ∧ PStep w0 w' base WB M r j u v ⟨3, t, a, b, tw, K1, K2, F⟩ B) (by omega) (by omega) (by omega) hc.1 hc.2 (cell_row (hw1.blk 8 rfl) 1) (hfin.mono ?_) ?_).mono ?_
  · rintro e w' ⟨bo, rfl, h'⟩
    exact ⟨bo, rfl, h'⟩
  · rintro w' ⟨e, _⟩
    cases e
  · rintro e w' ⟨rfl, ⟨_, h'⟩ | ⟨w2, ⟨e, _⟩, _⟩⟩
    · exact ⟨rfl, h'⟩
    · cases e
theorem pline_5 {t a b tw : Nat} {K1 K2 : Lk} {F : Fr} (h : PairAt w0 w base WB M r j u v ⟨5, t, a, b, tw, K1, K2, F⟩ B X) (ok : FOk F) (hn : M.n ≤ 1000000000) (hp : M.pn ≤ 1000000000) :
    Calls Tryz.prog 66 #[.pointer (some ⟨B, 6, none⟩), Pw WB] w fun e w' => e = .returned (.tuple #[]) ∧ PStep w0 w' base WB M r j u v ⟨5, t, a, b, tw, K1, K2, F⟩ B := by
  obtain ⟨l, hw, V, U, XC, TC, LB, p1, q1, p2, q2, rfl, hr1⟩ := h.at'
  have hc := wq_cell hw rfl
  have hw1 := hw.put 0 rfl 6 (.slice (some ⟨LB, 1, none⟩) 1 1) rfl
  have hst := leave_step hw1 h.ju hr1 1 (V := V) rfl (ok.ok hn hp) ok.ln
  refine (todo_leave (LB := LB) (i := 0) (n := 1) (c := 1) (V := V) (Q := fun bo w' => bo = decide ((fstepK M F).ln = 0) ∧ ∃ X', Wq w0 w' base WB (fstepM M F) (r.set u (freeP U (fstepK M F))) j [(B, .cells (pairC a b p1 q1 p2 q2 (.slice (some ⟨LB, 1, none⟩) 1 1)) 76 (0, 0)), (V, .cells #[Pw U] 270 (0, 0)), (XC, .cells #[Pw B] 80 (0, 0)), (TC, .cells #[.int .i64 (t : Int)] 3 (0, 0)), (LB, .cells #[leaveF V, lookF XC TC] 167 (0, 0))] X') (by omega) (by omega) (by omega) hc.1 hc.2 (cell_row (hw1.blk 4 rfl) 0) (hst.mono ?_) ?_).mono ?_
  · rintro e w' ⟨rfl, X', h'⟩
    exact ⟨_, rfl, rfl, X', h'⟩
  · rintro w' ⟨_, X', h'⟩
    exact ⟨(wq_cell h' rfl).2, _, (wq_cell h' rfl).1⟩
  · rintro e w' ⟨rfl, ⟨hb, X', h'⟩ | ⟨w2, ⟨hb, X', h'⟩, rfl⟩⟩
    · have h0 : (fstepK M F).ln = 0 := of_decide_eq_true hb.symm
      have e : prE M ⟨5, t, a, b, tw, K1, K2, F⟩ = ⟨1, t, a, b, tw, K1, K2, fstepK M F⟩ := by show (⟨if (fstepK M F).ln = 0 then 1 else 5, t, a, b, tw, K1, K2, fstepK M F⟩ : Pr) = _; rw [if_pos h0]
      exact ⟨rfl, PStep.one (q := freeP U (fstepK M F)) e (X := X') ⟨h.ju, h.jv, h.uv, by rw [List.length_set]; exact h.hu, by rw [List.length_set]; exact h.hv, _, h', LB, XC, TC, 1, 4, 2, 3, p1, q1, p2, q2, _, rfl, rfl, rfl, rfl, rfl, by decide, by decide, by decide⟩ h.hv⟩
    · have h0 : ¬ (fstepK M F).ln = 0 := of_decide_eq_false hb.symm
      have e : prE M ⟨5, t, a, b, tw, K1, K2, F⟩ = ⟨5, t, a, b, tw, K1, K2, fstepK M F⟩ := by show (⟨if (fstepK M F).ln = 0 then 1 else 5, t, a, b, tw, K1, K2, fstepK M F⟩ : Pr) = _; rw [if_neg h0]
      have h2 := h'.put 0 rfl 6 (.slice (some ⟨LB, 0, none⟩) 2 2) rfl
      exact ⟨rfl, PStep.one (q := freeP U (fstepK M F)) e (X := X') ⟨h.ju, h.jv, h.uv, by rw [List.length_set]; exact h.hu, by rw [List.length_set]; exact h.hv, _, h2, V, U, XC, TC, LB, p1, q1, p2, q2, rfl, List.getElem?_set_self h.hu⟩ h.hv⟩
theorem pair_todo (h : PairAt w0 w base WB M r j u v P B X) (ok : PrOk P) (ms : 0 ≤ M.sp ∧ M.sp ≤ 16) (hn : M.n ≤ 1000000000) (hp : M.pn ≤ 1000000000) (h0 : P.ln ≠ 0) :
    Calls Tryz.prog 66 #[.pointer (some ⟨B, 6, none⟩), Pw WB] w fun e w' => e = .returned (.tuple #[]) ∧ PStep w0 w' base WB M r j u v P B := by
  obtain ⟨ln, t, a, b, tw, K1, K2, F⟩ := P
  have hln : ln ≤ 5 := ok.ln
  have h0' : ln ≠ 0 := h0
  rcases (show ln = 1 ∨ ln = 2 ∨ ln = 3 ∨ ln = 4 ∨ ln = 5 by omega) with rfl | rfl | rfl | rfl | rfl
  · exact pline_1 h ok.t ok.a ok.b hn
  · exact pline_2 h ok.k1 ms hn hp
  · exact pline_3 h hn
  · exact pline_4 h ok.k2 ms hn hp
  · exact pline_5 h ok.f hn hp
theorem PairAt.over (h : PairAt w0 w base WB M r j u v P B X) (ok : PrOk P) : Calls Tryz.prog 25 #[Pw B] w fun e w' => e = .returned (.bool (decide (P.ln = 0))) ∧ Below w.heap.size w w' := by
  obtain ⟨l, hw, hs⟩ := h.at'
  obtain ⟨ln, t, a, b, tw, K1, K2, F⟩ := P
  have hln : ln ≤ 5 := ok.ln
  rcases (show ln = 0 ∨ ln = 1 ∨ ln = 2 ∨ ln = 3 ∨ ln = 4 ∨ ln = 5 by omega) with rfl | rfl | rfl | rfl | rfl | rfl
  · obtain ⟨A, c, hl⟩ := hs
    exact over_any 0 hw hl
  · obtain ⟨LB, XC, TC, i, kl, kx, kt, p1, q1, p2, q2, row, hl0, _⟩ := hs
    exact over_any 0 hw hl0
  · obtain ⟨OR, V1, XC, TC, KB, OB, V2, LB, U1, U2, rfl, _⟩ := hs
    exact over_any (n := 3) 0 hw rfl
  · obtain ⟨OR, V1, XC, TC, KB, OB, V2, LB, U1, U2, rfl, _⟩ := hs
    exact over_any (n := 2) 0 hw rfl
  · obtain ⟨OR, V1, XC, TC, KB, OB, V2, LB, U1, U2, rfl, _⟩ := hs
    exact over_any (n := 1) 0 hw rfl
  · obtain ⟨V, U, XC, TC, LB, p1, q1, p2, q2, rfl, _⟩ := hs
    exact over_any (n := 2) 0 hw rfl
theorem pstep_any (h : PairAt w0 w base WB M r j u v P B X) (ok : PrOk P) (ms : 0 ≤ M.sp ∧ M.sp ≤ 16) (hn : M.n ≤ 1000000000) (hp : M.pn ≤ 1000000000) (h0 : P.ln ≠ 0) :
    Calls Tryz.prog 26 #[Pw B, Pw WB] w fun e w' => e = .returned (.bool (decide ((prE M P).ln = 0))) ∧ PStep w0 w' base WB M r j u v P B := by
  have hov := h.over ok
  rw [decide_eq_false h0] at hov
  have hst := fun (W : World) (hb : Below w.heap.size w W) => pair_todo (h.new hb) ok ms hn hp h0
  have hov2 : ∀ W, PStep w0 W base WB M r j u v P B → Calls Tryz.prog 25 #[Pw B] W fun e w' => e = .returned (.bool (decide ((prE M P).ln = 0))) ∧ PStep w0 w' base WB M r j u v P B := fun W ⟨q1, q2, X', h'⟩ => by
    refine (h'.over (ok.step ms h.look h.lk)).mono ?_
    rintro e w' ⟨rfl, hb⟩
    exact ⟨rfl, q1, q2, X', h'.new hb⟩
  have HOV := Lib.hid hov; have HST := Lib.hid hst; have HOV2 := Lib.hid hov2
  clear h ok ms hn hp h0 hov hst hov2
  generalize decide ((prE M P).ln = 0) = b at *
  go_enter Tryz.func26, Tryz.ntmps26
  go_upto_region 2 with (go_at_call 25; refine HOV.out.mono ?_; rintro e w2 ⟨rfl, hb2⟩; have HB2 := Lib.hid hb2; clear hb2)
  go_upto_region 3 with (go_at_call 66; refine (HST.out _ HB2.out).mono ?_; rintro e w3 ⟨rfl, hs⟩; have HS := Lib.hid hs; clear hs)
  go_wp2_with (go_at_call 25; refine (HOV2.out _ HS.out).mono ?_; rintro e w4 ⟨rfl, hs⟩; have HS4 := Lib.hid hs; clear hs)
  go_ret
  exact ⟨rfl, HS4.out⟩
def NewPr (w w' : World) (t a b : Nat) (v : Value) : Prop := ∃ B XC TC LB, v = Pw B ∧ (rowsP [(B, .cells (pairC a b 0 0 0 0 (.slice (some ⟨LB, 0, none⟩) 1 1)) 76 (0, 0)), (XC, .cells #[Pw B] 80 (0, 0)), (TC, .cells #[.int .i64 (t : Int)] 3 (0, 0)), (LB, .cells #[lookF XC TC] 167 (0, 0))]).ok w' ∧ Below w.heap.size w w' ∧ w.heap.size ≤ B ∧ w.heap.size ≤ XC ∧ w.heap.size ≤ TC ∧ w.heap.size ≤ LB
theorem new_pair {t a b : Nat} (ht : t < 64) (w : World) : Calls Tryz.prog 23 #[.int .i64 (t : Int), .int .u32 (a : Int), .int .u32 (b : Int)] w fun e w' => ∃ v, e = .returned v ∧ NewPr w w' t a b v := by
  have d1 : decide ((t : Int) < 64) = true := decide_eq_true (by omega)
  have d2 : decide ((0 : Int) ≤ (t : Int)) = true := decide_eq_true (by omega)
  have d3 : decide (t < 64) = true := decide_eq_true ht
  clear ht
  go_enter Tryz.func23, Tryz.ntmps23
  go_upto_region 3 with (fail)
  obtain ⟨w1, hw1⟩ : ∃ w1, w1 = w.alloc (.cells (pairC a b 0 0 0 0 (.slice none 0 0)) 76) := ⟨_, rfl⟩
  obtain ⟨B, hB⟩ : ∃ B, B = w.heap.size := ⟨_, rfl⟩
  have hs1 : w1.heap.size = B + 1 := by rw [hw1, hB]; exact alloc_size _ _
  have hb1 : w1.heap[B]? = some (.cells (pairC a b 0 0 0 0 (.slice none 0 0)) 76 (0, 0)) := by rw [hw1, hB]; exact heap_alloc_new _ _
  have hbl : Below w.heap.size w w1 := by rw [hw1]; exact below1 _ _
  have hw1' : w.alloc (.cells #[.int .u32 (a : Int), .int .u32 (b : Int), .int .i64 0, .int .i64 0, .int .i64 0, .int .i64 0, .slice none 0 0] 76) = w1 := hw1.symm
  rw [hw1', ← hB]
  obtain ⟨w4, hw4⟩ : ∃ w4, w4 = ((w1.alloc (.cells #[Pw B] 80)).alloc (.cells #[.int .i64 (t : Int)] 3)).alloc (.cells #[lookF (B + 1) (B + 1 + 1)] 167) := ⟨_, rfl⟩
  have hb4 : w4.heap[B]? = some (.cells (pairC a b 0 0 0 0 (.slice none 0 0)) 76 (0, 0)) := by
    rw [hw4, alloc_lt (by simp only [alloc_size, hs1]; omega), alloc_lt (by simp only [alloc_size, hs1]; omega), alloc_lt (by simp only [alloc_size, hs1]; omega)]; exact hb1
  have hx4 : w4.heap[B + 1]? = some (.cells #[Pw B] 80 (0, 0)) := by
    rw [hw4, alloc_lt (by simp only [alloc_size, hs1]; omega), alloc_lt (by simp only [alloc_size, hs1]; omega)]
    exact alloc_at hs1.symm
  have ht4 : w4.heap[B + 1 + 1]? = some (.cells #[.int .i64 (t : Int)] 3 (0, 0)) := by
    rw [hw4, alloc_lt (by simp only [alloc_size, hs1]; omega)]
    exact alloc_at (by rw [alloc_size, hs1])
  have hl4 : w4.heap[B + 1 + 1 + 1]? = some (.cells #[lookF (B + 1) (B + 1 + 1)] 167 (0, 0)) := by
    rw [hw4]
    exact alloc_at (by rw [alloc_size, alloc_size, hs1])
  have hbl4 : Below w.heap.size w w4 := by
    rw [hw4]
    refine (((hbl.alloc (by rw [hs1, ← hB]; omega) _).alloc (by rw [alloc_size, hs1, ← hB]; omega) _).alloc (by rw [alloc_size, alloc_size, hs1, ← hB]; omega) _)
  have y4 : (((w1.alloc (.cells #[Pw B] 80)).alloc (.cells #[.int .i64 (t : Int)] 3)).alloc (.cells #[lookF (B + 1) (B + 1 + 1)] 167)).cell? ⟨B, 6, none⟩ = some (.slice none 0 0) := by rw [← hw4]; exact cell_row hb4 6
  have f4 : (((w1.alloc (.cells #[Pw B] 80)).alloc (.cells #[.int .i64 (t : Int)] 3)).alloc (.cells #[lookF (B + 1) (B + 1 + 1)] 167)).frozen? ⟨B, 6, none⟩ = false := by rw [← hw4]; exact froz_row hb4 6
  have HL : Hid (Calls Tryz.prog 65 #[Pw B, .int .i64 (t : Int)] w1 fun e w' => e = .returned (lookF (B + 1) (B + 1 + 1)) ∧ w' = (w1.alloc (.cells #[Pw B] 80)).alloc (.cells #[.int .i64 (t : Int)] 3)) := Lib.hid (by
    have := look_new B (t : Int) w1
    rwa [hs1] at this)
  have H4 := Lib.hid (And.intro hb4 (And.intro hx4 (And.intro ht4 (And.intro hl4 hbl4)))); have HW4 := Lib.hid hw4; have HB := Lib.hid hB; have HS1 := Lib.hid hs1
  clear hb4 hx4 ht4 hl4 hbl4 hw4 hB hb1 hbl hw1' hw1 hs1
  go_upto_region 4 with (go_at_call 65; refine HL.out.mono ?_; rintro e w2 ⟨rfl, rfl⟩)
  rw [← HW4.out, HS1.out]
  clear y4 f4 HL
  go_wp2_with fail
  go_ret
  obtain ⟨hb4, hx4, ht4, hl4, hbl4⟩ := H4.out
  have hb5 := set_blk hb4 6 (.slice (some ⟨B + 1 + 1 + 1, 0, none⟩) 1 1) _ rfl
  refine ⟨_, rfl, B, B + 1, B + 1 + 1, B + 1 + 1 + 1, rfl, ⟨fun x hx => ?_, ?_⟩, ?_, ?_⟩
  · simp only [List.mem_cons, List.not_mem_nil, or_false] at hx
    rcases hx with rfl | rfl | rfl | rfl
    · exact hb5
    · exact (heap_set_ne (by show B + 1 ≠ B; omega)).trans hx4
    · exact (heap_set_ne (by show B + 1 + 1 ≠ B; omega)).trans ht4
    · exact (heap_set_ne (by show B + 1 + 1 + 1 ≠ B; omega)).trans hl4
  · show [B, B + 1, B + 1 + 1, B + 1 + 1 + 1].Nodup
    simp only [List.nodup_cons, List.mem_cons, List.not_mem_nil, or_false, not_or, not_false_eq_true, List.nodup_nil, and_true]
    omega
  · exact hbl4.setCell (p := ⟨B, 6, none⟩) (by show w.heap.size ≤ B; have := HB.out; omega) _
  · have := HB.out
    exact ⟨by omega, by omega, by omega, by omega⟩
theorem Pg.pair (h : Pg w0 w base WB M r X) {t a b : Nat} {v : Value} (hn : NewPr w w' t a b v) : ∃ B, v = Pw B ∧ ∃ X', PairAt w0 w' base WB M (r ++ [noP, noP, noP]) r.length (r.length + 1) (r.length + 2) (pr0 t a b) B X' := by
  obtain ⟨B, XC, TC, LB, rfl, hok, hb, h1, h2, h3, h4⟩ := hn
  have g1 := Pg.push1 h (rowsP [(B, .cells (pairC a b 0 0 0 0 (.slice (some ⟨LB, 0, none⟩) 1 1)) 76 (0, 0)), (XC, .cells #[Pw B] 80 (0, 0)), (TC, .cells #[.int .i64 (t : Int)] 3 (0, 0)), (LB, .cells #[lookF XC TC] 167 (0, 0))]) hb hok (fun k hk => by
    obtain ⟨ob, he⟩ := hk
    simp only [List.mem_cons, List.not_mem_nil, or_false, Prod.mk.injEq] at he
    rcases he with ⟨rfl, _⟩ | ⟨rfl, _⟩ | ⟨rfl, _⟩ | ⟨rfl, _⟩
    · exact h1
    · exact h2
    · exact h3
    · exact h4)
  have g2 := Pg.push1 g1 noP (Below.refl _ _) trivial (fun k e => e.elim)
  have g3 := Pg.push1 g2 noP (Below.refl _ _) trivial (fun k e => e.elim)
  simp only [List.append_assoc, List.cons_append, List.nil_append] at g3
  have hq : Wq w0 w' base WB M (r ++ [noP, noP, noP]) r.length [(B, .cells (pairC a b 0 0 0 0 (.slice (some ⟨LB, 0, none⟩) 1 1)) 76 (0, 0)), (XC, .cells #[Pw B] 80 (0, 0)), (TC, .cells #[.int .i64 (t : Int)] 3 (0, 0)), (LB, .cells #[lookF XC TC] 167 (0, 0))] X := by
    refine ⟨?_, by rw [List.length_append]; show _ < _ + 3; omega⟩
    rw [List.set_append_right _ _ (Nat.le_refl _), Nat.sub_self]
    exact g3
  exact ⟨B, rfl, X, by omega, by omega, by omega, by rw [List.length_append]; show _ < _ + 3; omega, by rw [List.length_append]; show _ < _ + 3; omega, _, hq, LB, XC, TC, 0, 3, 1, 2, 0, 0, 0, 0, _, rfl, rfl, rfl, rfl, rfl, by decide, by decide, by decide⟩
theorem over_cell {w : World} {B n c : Nat} {P : Option Addr} (y0 : w.cell? ⟨B, 6, none⟩ = some (.slice P n c)) : Calls Tryz.prog 25 #[Pw B] w fun e w' => e = .returned (.bool (decide (n = 0))) ∧ w = w' := by
  have d1 : ((n : Int) == 0) = decide (n = 0) := by by_cases e : n = 0 <;> simp [e]
  have d2 : decide ((n : Int) = 0) = decide (n = 0) := by by_cases e : n = 0 <;> simp [e]
  generalize decide (n = 0) = d at *
  go_enter Tryz.func25, Tryz.ntmps25
  go_wp2_with fail
  go_ret
  exact ⟨by simp [d1, d2], rfl⟩
theorem got_blk {w : World} {B a b c : Nat} {p1 q1 p2 q2 : Int} {Q : Option Addr} (hbk : w.heap[B]? = some (.cells (pairC a b p1 q1 p2 q2 (.slice Q 0 c)) 76 (0, 0))) : Calls Tryz.prog 24 #[Pw B] w fun e w' => e = .returned (.tuple #[plV p1 q1, plV p2 q2]) ∧ Below w.heap.size w w' := by
  have hov := fun (W : World) (hb2 : Below w.heap.size w W) => over_cell (w := W) (n := 0) (cell_row ((hb2.block _ (heap_lt hbk)).trans hbk) 6)
  rw [decide_eq_true rfl] at hov
  have hov : ∀ W, Below w.heap.size w W → Calls Tryz.prog 25 #[Pw B] W fun e w' => e = .returned (.bool true) ∧ Below W.heap.size W w' := fun W hb2 => (hov W hb2).mono (by rintro e w' ⟨rfl, rfl⟩; exact ⟨rfl, Below.refl _ _⟩)
  have hl := heap_lt hbk
  have HOV := Lib.hid hov; have HL := Lib.hid hl; have HBK := Lib.hid hbk
  clear hov hl hbk
  go_enter Tryz.func24, Tryz.ntmps24
  go_upto_region 1 with (fail)
  obtain ⟨w1, hw1⟩ : ∃ w1, w1 = (w.alloc (.cells #[.int .i64 0, .int .i64 0] 27)).alloc (.cells #[.int .i64 0, .int .i64 0] 27) := ⟨_, rfl⟩
  obtain ⟨Q0, hQ0⟩ : ∃ Q0, Q0 = w.heap.size := ⟨_, rfl⟩
  have hz : (w.alloc (.cells #[.int .i64 0, .int .i64 0] 27)).heap.size = Q0 + 1 := by rw [alloc_size, hQ0]
  have hq0 : w1.heap[Q0]? = some (.cells #[.int .i64 0, .int .i64 0] 27 (0, 0)) := by
    rw [hw1, alloc_lt (by rw [hz]; omega)]; exact alloc_at hQ0
  have hq1 : w1.heap[Q0 + 1]? = some (.cells #[.int .i64 0, .int .i64 0] 27 (0, 0)) := by
    rw [hw1]; exact alloc_at hz.symm
  have hb1 : Below w.heap.size w w1 := by rw [hw1]; exact (below1 _ _).alloc (by rw [alloc_size]; omega) _
  rw [← hw1, ← hQ0]
  have H1 := Lib.hid (And.intro hq0 (And.intro hq1 hb1)); have HQ0 := Lib.hid hQ0
  clear hq0 hq1 hb1 hz hw1 hQ0
  go_upto_region 3 with (go_at_call 25; refine (HOV.out _ H1.out.2.2).mono ?_; rintro e w2 ⟨rfl, hb2⟩; have HB2 := Lib.hid hb2; clear hb2)
  have hB2 : w2.heap[B]? = some (.cells (pairC a b p1 q1 p2 q2 (.slice Q 0 c)) 76 (0, 0)) := by
    rw [HB2.out.block _ (by have := HL.out; have := H1.out.2.2.size; omega), H1.out.2.2.block _ HL.out]; exact HBK.out
  have hq0 : w2.heap[Q0]? = some (.cells #[.int .i64 0, .int .i64 0] 27 (0, 0)) := by
    rw [HB2.out.block _ (heap_lt H1.out.1)]; exact H1.out.1
  have hq1 : w2.heap[Q0 + 1]? = some (.cells #[.int .i64 0, .int .i64 0] 27 (0, 0)) := by
    rw [HB2.out.block _ (heap_lt H1.out.2.1)]; exact H1.out.2.1
  have hn0 : B ≠ Q0 := by have := HL.out; have := HQ0.out; omega
  have hn1 : B ≠ Q0 + 1 := by have := HL.out; have := HQ0.out; omega
  have hbw : Below w.heap.size w w2 := H1.out.2.2.trans (HB2.out.mono H1.out.2.2.size)
  have HW := Lib.hid (And.intro hB2 (And.intro hq0 (And.intro hq1 (And.intro hn0 (And.intro hn1 hbw)))))
  clear hB2 hq0 hq1 hn0 hn1 hbw HOV HBK H1
  refine wp_region_held_drew (S := fun w' => w'.cell? ⟨B, 2, none⟩ = some (.int .i64 p1) ∧ w'.cell? ⟨B, 3, none⟩ = some (.int .i64 q1) ∧ w'.cell? ⟨B, 4, none⟩ = some (.int .i64 p2) ∧ w'.cell? ⟨B, 5, none⟩ = some (.int .i64 q2)) (by kernel_rfl) ?_ (fun hHeld => ?_)
  · exact ⟨cell_row HW.out.1 2, cell_row HW.out.1 3, cell_row HW.out.1 4, cell_row HW.out.1 5⟩
  refine tA 0 ⟨some 13, .move (.tmp 0), 80, "pairs.go:75", #[], none⟩ ?vgm1 ?rgm1
  (try simp only [Act.put, tC, tD, tE])
  refine tA 1 ⟨some 14, .nilCheck (.tmp 13), 0, "pairs.go:75", #[⟨0, .data⟩], none⟩ ?vgm2 ?rgm2
  (try simp only [Act.put, tC, tD, tE])
  refine tA 2 ⟨some 15, .fieldAddr 76 (.tmp 14) 1, 0, "pairs.go:75", #[⟨1, .data⟩], none⟩ ?vgm3 ?rgm3
  (try simp only [Act.put, tC, tD, tE])
  refine tA 3 ⟨some 16, .indexAddr 72 (.tmp 15) (.const (.int .i64 0)), 0, "pairs.go:75", #[⟨2, .data⟩], none⟩ ?vgm4 ?rgm4
  (try simp only [Act.put, tC, tD, tE])
  refine tA 4 ⟨some 17, .load 27 (.tmp 16), 27, "pairs.go:75", #[⟨3, .data⟩], none⟩ ?vgm5 ?rgm5
  (try simp only [Act.put, tC, tD, tE])
  refine tA 5 ⟨some 18, .move (.tmp 0), 80, "pairs.go:75", #[⟨10, .gcOnly .lateStores⟩], none⟩ ?vgm6 ?rgm6
  (try simp only [Act.put, tC, tD, tE])
  refine tA 6 ⟨some 19, .nilCheck (.tmp 18), 0, "pairs.go:75", #[⟨5, .data⟩, ⟨10, .gcOnly .lateStores⟩], none⟩ ?vgm7 ?rgm7
  (try simp only [Act.put, tC, tD, tE])
  refine tA 7 ⟨some 20, .fieldAddr 76 (.tmp 19) 1, 0, "pairs.go:75", #[⟨6, .data⟩, ⟨10, .gcOnly .lateStores⟩], none⟩ ?vgm8 ?rgm8
  (try simp only [Act.put, tC, tD, tE])
  refine tA 8 ⟨some 21, .indexAddr 72 (.tmp 20) (.const (.int .i64 1)), 0, "pairs.go:75", #[⟨7, .data⟩, ⟨10, .gcOnly .lateStores⟩], none⟩ ?vgm9 ?rgm9
  (try simp only [Act.put, tC, tD, tE])
  refine tA 9 ⟨some 22, .load 27 (.tmp 21), 27, "pairs.go:75", #[⟨8, .data⟩, ⟨10, .gcOnly .lateStores⟩], none⟩ ?vgm10 ?rgm10
  (try simp only [Act.put, tC, tD, tE])
  refine wpAnyH_ready (rs := [10]) (by kernel_rfl) (by simp) ?_
  refine AllReadyH.cons (o := ⟨none, .store 27 (.tmp 2) (.tmp 17), 0, "pairs.go:75", #[⟨4, .data⟩, ⟨0, .phase⟩, ⟨1, .phase⟩, ⟨2, .phase⟩, ⟨3, .phase⟩, ⟨4, .phase⟩, ⟨5, .textOnly .lateStores⟩, ⟨6, .textOnly .lateStores⟩, ⟨7, .textOnly .lateStores⟩, ⟨8, .textOnly .lateStores⟩, ⟨9, .textOnly .lateStores⟩], none⟩) rfl (fun Kq hKq => ?_) AllReadyH.nil
  (have y0 : w2.cell? ⟨Q0, 0, none⟩ = some (.int .i64 0) := cell_row HW.out.2.1 0; have y1 : w2.cell? ⟨Q0, 1, none⟩ = some (.int .i64 0) := cell_row HW.out.2.1 1; have f0 : w2.frozen? ⟨Q0, 0, none⟩ = false := froz_row HW.out.2.1 0; have f1 : w2.frozen? ⟨Q0, 1, none⟩ = false := froz_row HW.out.2.1 1; go_simp; have l1 : ((w2.setCell ⟨Q0, 0, none⟩ (.int .i64 p1)).setCell ⟨Q0, 1, none⟩ (.int .i64 q1)).drew.heap[Q0]? = some (.cells #[.int .i64 p1, .int .i64 q1] 27 (0, 0)) := set_blk (set_blk HW.out.2.1 0 (.int .i64 p1) _ rfl) 1 (.int .i64 q1) _ rfl; have l2 : ((w2.setCell ⟨Q0, 0, none⟩ (.int .i64 p1)).setCell ⟨Q0, 1, none⟩ (.int .i64 q1)).drew.heap[Q0 + 1]? = some (.cells #[.int .i64 0, .int .i64 0] 27 (0, 0)) := (heap_set_ne (by show Q0 + 1 ≠ Q0; omega)).trans ((heap_set_ne (by show Q0 + 1 ≠ Q0; omega)).trans HW.out.2.2.1); have l3 : ((w2.setCell ⟨Q0, 0, none⟩ (.int .i64 p1)).setCell ⟨Q0, 1, none⟩ (.int .i64 q1)).drew.heap[B]? = some (.cells (pairC a b p1 q1 p2 q2 (.slice Q 0 c)) 76 (0, 0)) := (heap_set_ne HW.out.2.2.2.1).trans ((heap_set_ne HW.out.2.2.2.1).trans HW.out.1); have l4 : Below w.heap.size w ((w2.setCell ⟨Q0, 0, none⟩ (.int .i64 p1)).setCell ⟨Q0, 1, none⟩ (.int .i64 q1)).drew := ((HW.out.2.2.2.2.2.setCell (p := ⟨Q0, 0, none⟩) (by show w.heap.size ≤ Q0; have := HQ0.out; omega) _).setCell (p := ⟨Q0, 1, none⟩) (by show w.heap.size ≤ Q0; have := HQ0.out; omega) _).drew; have HX := Lib.hid (And.intro l1 (And.intro l2 (And.intro l3 l4))); clear y0 y1 f0 f1 l1 l2 l3 l4; generalize ((w2.setCell ⟨Q0, 0, none⟩ (.int .i64 p1)).setCell ⟨Q0, 1, none⟩ (.int .i64 q1)).drew = w3 at *)
  refine hKq.out _ _ ?_ (fun hHeld => ?_)
  · exact ⟨cell_row HX.out.2.2.1 2, cell_row HX.out.2.2.1 3, cell_row HX.out.2.2.1 4, cell_row HX.out.2.2.1 5⟩
  clear hKq Kq
  (try simp only [Act.put, tC, tD, tE])
  refine wpAnyH_ready (rs := [11]) (by kernel_rfl) (by simp) ?_
  refine AllReadyH.cons (o := ⟨none, .store 27 (.tmp 3) (.tmp 22), 0, "pairs.go:75", #[⟨9, .data⟩, ⟨10, .chain⟩, ⟨0, .phase⟩, ⟨1, .phase⟩, ⟨2, .phase⟩, ⟨3, .phase⟩, ⟨4, .phase⟩, ⟨5, .phase⟩, ⟨6, .phase⟩, ⟨7, .phase⟩, ⟨8, .phase⟩, ⟨9, .phase⟩, ⟨10, .phase⟩], none⟩) rfl (fun Kq hKq => ?_) AllReadyH.nil
  (have y0 : w3.cell? ⟨Q0 + 1, 0, none⟩ = some (.int .i64 0) := cell_row HX.out.2.1 0; have y1 : w3.cell? ⟨Q0 + 1, 1, none⟩ = some (.int .i64 0) := cell_row HX.out.2.1 1; have f0 : w3.frozen? ⟨Q0 + 1, 0, none⟩ = false := froz_row HX.out.2.1 0; have f1 : w3.frozen? ⟨Q0 + 1, 1, none⟩ = false := froz_row HX.out.2.1 1; go_simp; have l1 : ((w3.setCell ⟨Q0 + 1, 0, none⟩ (.int .i64 p2)).setCell ⟨Q0 + 1, 1, none⟩ (.int .i64 q2)).heap[Q0]? = some (.cells #[.int .i64 p1, .int .i64 q1] 27 (0, 0)) := (heap_set_ne (by show Q0 ≠ Q0 + 1; omega)).trans ((heap_set_ne (by show Q0 ≠ Q0 + 1; omega)).trans HX.out.1); have l2 : ((w3.setCell ⟨Q0 + 1, 0, none⟩ (.int .i64 p2)).setCell ⟨Q0 + 1, 1, none⟩ (.int .i64 q2)).heap[Q0 + 1]? = some (.cells #[.int .i64 p2, .int .i64 q2] 27 (0, 0)) := set_blk (set_blk HX.out.2.1 0 (.int .i64 p2) _ rfl) 1 (.int .i64 q2) _ rfl; have l3 : ((w3.setCell ⟨Q0 + 1, 0, none⟩ (.int .i64 p2)).setCell ⟨Q0 + 1, 1, none⟩ (.int .i64 q2)).heap[B]? = some (.cells (pairC a b p1 q1 p2 q2 (.slice Q 0 c)) 76 (0, 0)) := (heap_set_ne HW.out.2.2.2.2.1).trans ((heap_set_ne HW.out.2.2.2.2.1).trans HX.out.2.2.1); have l4 : Below w.heap.size w ((w3.setCell ⟨Q0 + 1, 0, none⟩ (.int .i64 p2)).setCell ⟨Q0 + 1, 1, none⟩ (.int .i64 q2)) := (HX.out.2.2.2.setCell (p := ⟨Q0 + 1, 0, none⟩) (by show w.heap.size ≤ Q0 + 1; have := HQ0.out; omega) _).setCell (p := ⟨Q0 + 1, 1, none⟩) (by show w.heap.size ≤ Q0 + 1; have := HQ0.out; omega) _; have HF : Hid (_ ∧ _ ∧ _ ∧ _ ∧ _) := Lib.hid (And.intro (cell_row l1 0) (And.intro (cell_row l1 1) (And.intro (cell_row l2 0) (And.intro (cell_row l2 1) l4)))); have H3B := Lib.hid l3; clear y0 y1 f0 f1 l1 l2 l3 l4; generalize (w3.setCell ⟨Q0 + 1, 0, none⟩ (.int .i64 p2)).setCell ⟨Q0 + 1, 1, none⟩ (.int .i64 q2) = w4 at *)
  refine hKq.out _ _ ?_ (fun hHeld => ?_)
  · exact ⟨cell_row H3B.out 2, cell_row H3B.out 3, cell_row H3B.out 4, cell_row H3B.out 5⟩
  clear hKq Kq
  (try simp only [Act.put, tC, tD, tE])
  refine wpAnyH_done (by kernel_rfl) ?_ _
  clear hHeld
  go_wp2_with fail
  exact bodyPost_ret (v := .tuple #[plV p1 q1, plV p2 q2]) (by simp [results, Tryz.results24, go_sem, HF.out.1, HF.out.2.1, HF.out.2.2.1, HF.out.2.2.2.1]) rfl ⟨rfl, HF.out.2.2.2.2⟩
theorem got_yes {B a b c : Nat} {p1 q1 p2 q2 : Int} {Q : Option Addr} (k : Nat) (h : Wq w0 w base WB M r j l X) (hb : l[k]? = some (B, .cells (pairC a b p1 q1 p2 q2 (.slice Q 0 c)) 76 (0, 0))) : Calls Tryz.prog 24 #[Pw B] w fun e w' => e = .returned (.tuple #[plV p1 q1, plV p2 q2]) ∧ Below w.heap.size w w' := got_blk (h.blk k hb)
end
end Go.Proofs.YtokplfkhpjcfcaaGreat.S16
set_option linter.unusedVariables false
set_option linter.unusedSimpArgs false
namespace Go.Proofs.YtokplfkhpjcfcaaGreat.S16
set_option maxRecDepth 100000
set_option maxHeartbeats 16000000
open Go.Proofs.YtokplfkhpjcfcaaGreat Go.Proofs.YtokplfkhpjcfcaaGreat.S11 Go.Proofs.YtokplfkhpjcfcaaGreat.S12 Go.Proofs.YtokplfkhpjcfcaaGreat.S13 Go.Proofs.YtokplfkhpjcfcaaGreat.S14 Go.Proofs.YtokplfkhpjcfcaaGreat.S15
open Go.RowKit
theorem layT : Lay 74 167 1 8 .nilFunc := ⟨by kernel_rfl, info_of (by kernel_rfl), rfl, by omega, by omega⟩
theorem append_task {w : World} {LB0 LB1 g1 g2 : Nat} {cp1 cp2 : Array Value} (c0 : w.cell? ⟨LB0, 0, none⟩ = some (.func (.func g1) #[] cp1)) (c1 : w.cell? ⟨LB1, 0, none⟩ = some (.func (.func g2) #[] cp2)) (ty : TypeId) :
    ∃ (cc : Nat) (row : Array Value), 2 ≤ cc ∧ cc < 9223372036854775808 ∧ row[0]? = some (.func (.func g1) #[] cp1) ∧ row[1]? = some (.func (.func g2) #[] cp2) ∧
      (Builtin.append_ #[74, 74] ty #[(.slice (some ⟨LB0, 0, none⟩) 1 1), (.slice (some ⟨LB1, 0, none⟩) 1 1)]).run Tryz.prog w = .ok (.slice (some ⟨w.heap.size, 0, none⟩) 2 cc) (w.drew.alloc (.cells row 167)) := by
  obtain ⟨i, hi, hz, hsz, hby⟩ := layT.info
  have r0 : Rd w (LB0 + 1) (some ⟨LB0, 0, none⟩) [.func (.func g1) #[] cp1] := fun _ => ⟨LB0, 0, rfl, by omega, fun j u e => by
    match j, e with
    | 0, e => simp at e; rw [← e]; exact c0⟩
  have r1 : Rd w (LB1 + 1) (some ⟨LB1, 0, none⟩) [.func (.func g2) #[] cp2] := fun _ => ⟨LB1, 0, rfl, by omega, fun j u e => by
    match j, e with
    | 0, e => simp at e; rw [← e]; exact c1⟩
  have r0d : Rd w.drew (LB0 + 1) (some ⟨LB0, 0, none⟩) [.func (.func g1) #[] cp1] := r0
  have hold := (r0d.src layT (m := 1) rfl (by intro u hu; simp at hu; subst hu; rfl) 1).cells
  have hs := r1.src layT (m := 1) rfl (by intro u hu; simp at hu; subst hu; rfl) 1
  have hold' : (Builtin.firstCells i.size 1 (.slice (some ⟨LB0, 0, none⟩) 1 1)).run Tryz.prog w.drew = .ok #[.func (.func g1) #[] cp1] w.drew := by rw [hsz]; exact hold
  have hs' : Src Tryz.prog i.size 74 (.slice (some ⟨LB1, 0, none⟩) 1 1) 1 [.func (.func g2) #[] cp2] w := by rw [hsz]; exact hs
  have hrun := run_append_grow_src (P := Tryz.prog) w 74 74 ty 167 i .nilFunc layT.und hi hz (some ⟨LB0, 0, none⟩) 1 1 [.func (.func g1) #[] cp1] hold' _ 1 [.func (.func g2) #[] cp2] hs' (by omega) (by omega) (growslice_fits (by omega) (by rw [hby]; omega))
  have hcm := grownCap_le_maxLen w 2 1 167 (by decide)
  have hmx : maxLen < 9223372036854775808 := by decide
  exact ⟨_, _, grownCap_ge w 2 1 167, by omega, by rw [Array.getElem?_append_left (by simp)]; rfl, by rw [Array.getElem?_append_left (by simp)]; rfl, hrun⟩
theorem wp_append_task {w : World} {LB0 LB1 g1 g2 : Nat} {cp1 cp2 : Array Value} (c0 : w.cell? ⟨LB0, 0, none⟩ = some (.func (.func g1) #[] cp1)) (c1 : w.cell? ⟨LB1, 0, none⟩ = some (.func (.func g2) #[] cp2)) {ops : Array Oper} {o : Oper} {a : Act} {K : Act → World → Prop} {Q : Exit → Act → World → Prop} {F : Prop} (hgd : o.guard = none) (s x : Operand)
    (ho : o.op = .call { callee := .builtin .append, args := #[s, x], argTypes := #[74, 74] }) (hs : a.eval s = (.slice (some ⟨LB0, 0, none⟩) 1 1)) (hx : a.eval x = (.slice (some ⟨LB1, 0, none⟩) 1 1))
    (hK : ∀ (cc : Nat) (row : Array Value), 2 ≤ cc → cc < 9223372036854775808 → row[0]? = some (.func (.func g1) #[] cp1) → row[1]? = some (.func (.func g2) #[] cp2) → K (a.put o.dst (.slice (some ⟨w.heap.size, 0, none⟩) 2 cc)) (w.drew.alloc (.cells row 167))) :
    if Region.wanted o (yielded ops a.tmps) = true then Oper.wp Tryz.prog o a w K Q else F := by
  have hw : Region.wanted o (yielded ops a.tmps) = true := by simp [Region.wanted, hgd]
  rw [if_pos hw]
  obtain ⟨cc, row, h1, h2, h3, h4, hrun⟩ := append_task c0 c1 o.type
  unfold Oper.wp execOp
  simp only [ho, resolve, invoke, builtin, Sem.run_bind, Sem.run_pure, Result.andThen_ok, List.map_toArray, List.map_cons, List.map_nil, hs, hx, hrun]
  exact hK cc row h1 h2 h3 h4
theorem neqS (b1 i1 : Int) (w : World) : (binOp .neq 27 (.agg #[.int .i64 b1, .int .i64 i1]) (.agg #[.int .i64 b1, .int .i64 i1])).run Tryz.prog w = .ok (.bool false) w := by
  simp [go_sem, Tryz.underlying27]
structure Ap where
  ln : Nat
  two : Bool
  F1 : Fr
  F2 : Fr
def ap0 (two : Bool) (a b : Nat) : Ap := ⟨1, two, fr0 a, fr0 b⟩
def apM (M : Sd) (Q : Ap) : Sd :=
  match Q.ln with
  | 1 => fstepM M Q.F1
  | 2 => fstepM M Q.F2
  | _ => M
def apE (M : Sd) (Q : Ap) : Ap :=
  match Q.ln with
  | 1 => { Q with F1 := fstepK M Q.F1, ln := if (fstepK M Q.F1).ln = 0 then (if Q.two then 2 else 0) else 1 }
  | 2 => { Q with F2 := fstepK M Q.F2, ln := if (fstepK M Q.F2).ln = 0 then 0 else 2 }
  | _ => Q
structure ApOk (Q : Ap) : Prop where
  ln : Q.ln ≤ 2
  f1 : FOk Q.F1
  f2 : FOk Q.F2
theorem ok_ap {two : Bool} {a b : Nat} (ha : a < 4294967296) (hb : b < 4294967296) : ApOk (ap0 two a b) := ⟨by show 1 ≤ 2; omega, fok_new ha, fok_new hb⟩
theorem ApOk.step {M : Sd} {Q : Ap} (h : ApOk Q) (hl : ∀ a, S2.look M.L a < 18446744073709551616) (hk : ∀ i, M.lk i ≤ 64) : ApOk (apE M Q) := by
  obtain ⟨ln, two, F1, F2⟩ := Q
  have hln : ln ≤ 2 := h.ln
  rcases (show ln = 0 ∨ ln = 1 ∨ ln = 2 by omega) with rfl | rfl | rfl
  · exact h
  · exact ⟨by show (if (fstepK M F1).ln = 0 then (if two then 2 else 0) else 1) ≤ 2; split <;> (try split) <;> omega, h.f1.step hl hk, h.f2⟩
  · exact ⟨by show (if (fstepK M F2).ln = 0 then 0 else 2) ≤ 2; split <;> omega, h.f1, h.f2.step hl hk⟩
def oneR (B V LB U : Nat) : Rows := [(B, .cells #[.slice (some ⟨LB, 0, none⟩) 1 1] 78 (0, 0)), (V, .cells #[Pw U] 270 (0, 0)), (LB, .cells #[leaveF V] 167 (0, 0))]
def twoR (B V1 V2 LB U1 U2 : Nat) (row : Array Value) (i n c : Nat) : Rows := [(B, .cells #[.slice (some ⟨LB, i, none⟩) n c] 78 (0, 0)), (V1, .cells #[Pw U1] 270 (0, 0)), (V2, .cells #[Pw U2] 270 (0, 0)), (LB, .cells row 167 (0, 0))]
def AShape (Q : Ap) (B : Nat) (r : List Part) (u v : Nat) (l : Rows) : Prop :=
  match Q.ln with
  | 1 => match Q.two with
    | false => ∃ V LB U : Nat, l = oneR B V LB U ∧ r[u]? = some (freeP U Q.F1)
    | true => ∃ (V1 V2 LB U1 U2 c : Nat) (row : Array Value), l = twoR B V1 V2 LB U1 U2 row 0 2 (c + 2) ∧ row[0]? = some (leaveF V1) ∧ row[1]? = some (leaveF V2) ∧ c + 2 < 9223372036854775808 ∧ r[u]? = some (freeP U1 Q.F1) ∧ r[v]? = some (freeP U2 Q.F2)
  | 2 => ∃ (V1 V2 LB U1 U2 c : Nat) (row : Array Value), l = twoR B V1 V2 LB U1 U2 row 1 1 (c + 1) ∧ row[1]? = some (leaveF V2) ∧ c + 2 < 9223372036854775808 ∧ r[v]? = some (freeP U2 Q.F2)
  | _ => ∃ (P : Option Addr) (c : Nat), l[0]? = some (B, .cells #[.slice P 0 c] 78 (0, 0))
structure ApAt (w0 w : World) (base WB : Nat) (M : Sd) (r : List Part) (j u v : Nat) (Q : Ap) (B : Nat) (X : Wm) : Prop where
  ju : j ≠ u
  jv : j ≠ v
  uv : u ≠ v
  hu : u < r.length
  hv : v < r.length
  at' : ∃ l, Wq w0 w base WB M r j l X ∧ AShape Q B r u v l
def AStep (w0 w' : World) (base WB : Nat) (M : Sd) (r : List Part) (j u v : Nat) (Q : Ap) (B : Nat) : Prop := ∃ q1 q2 X', ApAt w0 w' base WB (apM M Q) ((r.set u q1).set v q2) j u v (apE M Q) B X'
section
variable {w0 w w' : World} {base WB : Nat} {M : Sd} {r : List Part} {j u v U B : Nat} {l l' : Rows} {X : Wm} {Q : Ap}
theorem ApAt.new (h : ApAt w0 w base WB M r j u v Q B X) (b : Below w.heap.size w w') : ApAt w0 w' base WB M r j u v Q B X := by
  obtain ⟨l, hw, hs⟩ := h.at'
  exact ⟨h.ju, h.jv, h.uv, h.hu, h.hv, l, hw.new b, hs⟩
theorem ApAt.look (h : ApAt w0 w base WB M r j u v Q B X) (a : Nat) : S2.look M.L a < 18446744073709551616 := by
  obtain ⟨l, hw, hs⟩ := h.at'
  exact hw.look a
theorem ApAt.lk (h : ApAt w0 w base WB M r j u v Q B X) (i : Nat) : M.lk i ≤ 64 := by
  obtain ⟨l, hw, hs⟩ := h.at'
  exact pg_le hw.pg i
theorem AStep.one {Q' : Ap} {q : Part} (hq : apE M Q = Q') (h : ApAt w0 w' base WB (apM M Q) (r.set u q) j u v Q' B X) (hv : v < r.length) : AStep w0 w' base WB M r j u v Q B := by
  obtain ⟨q2, h2⟩ := same_at (r := r.set u q) (u := v) (by rw [List.length_set]; exact hv)
  exact ⟨q, q2, X, by rw [h2, hq]; exact h⟩
theorem AStep.two {Q' : Ap} {q : Part} (hq : apE M Q = Q') (h : ApAt w0 w' base WB (apM M Q) (r.set v q) j u v Q' B X) (hu : u < r.length) : AStep w0 w' base WB M r j u v Q B := by
  obtain ⟨q1, h1⟩ := same_at (r := r) (u := u) hu
  exact ⟨q1, q, X, by rw [h1, hq]; exact h⟩
theorem aq_cell (h : Wq w0 w base WB M r j l X) {n c : Nat} {P : Option Addr} (hb : l[0]? = some (B, .cells #[.slice P n c] 78 (0, 0))) : w.cell? ⟨B, 0, none⟩ = some (.slice P n c) ∧ w.frozen? ⟨B, 0, none⟩ = false := ⟨cell_row (h.blk 0 hb) 0, froz_row (h.blk 0 hb) 0⟩
theorem cell_at {w : World} {B i T : Nat} {row : Array Value} {v : Value} (h : w.heap[B]? = some (.cells row T (0, 0))) (e : row[i]? = some v) : w.cell? ⟨B, i, none⟩ = some v := by
  rw [cell_row h i]; exact e
theorem aline_1one {F1 F2 : Fr} (h : ApAt w0 w base WB M r j u v ⟨1, false, F1, F2⟩ B X) (ok : FOk F1) (hn : M.n ≤ 1000000000) (hp : M.pn ≤ 1000000000) :
    Calls Tryz.prog 66 #[.pointer (some ⟨B, 0, none⟩), Pw WB] w fun e w' => e = .returned (.tuple #[]) ∧ AStep w0 w' base WB M r j u v ⟨1, false, F1, F2⟩ B := by
  obtain ⟨l, hw, V, LB, U, rfl, hr1⟩ := h.at'
  have hc := aq_cell hw rfl
  have hw1' := hw.put 0 rfl 0 (.slice (restA LB 0 (0)) (0) (0)) rfl
  have hst := leave_step hw1' h.ju hr1 1 (V := V) rfl (ok.ok hn hp) ok.ln
  refine (todo_leave (LB := LB) (i := 0) (n := 0) (c := 0) (V := V) (Q := fun bo w' => bo = decide ((fstepK M F1).ln = 0) ∧ ∃ X', Wq w0 w' base WB (fstepM M F1) (r.set u (freeP U (fstepK M F1))) j [(B, .cells #[.slice (some ⟨LB, 0, none⟩) 0 0] 78 (0, 0)), (V, .cells #[Pw U] 270 (0, 0)), (LB, .cells #[leaveF V] 167 (0, 0))] X') (by omega) (by omega) (by omega) hc.1 hc.2 (cell_at (hw1'.blk 2 rfl) rfl) (hst.mono ?_) ?_).mono ?_
  · rintro e w' ⟨rfl, X', h'⟩
    exact ⟨_, rfl, rfl, X', h'⟩
  · rintro w' ⟨_, X', h'⟩
    exact ⟨(aq_cell h' rfl).2, _, (aq_cell h' rfl).1⟩
  · rintro e w' ⟨rfl, ⟨hb, X', h'⟩ | ⟨w2, ⟨hb, X', h'⟩, rfl⟩⟩
    · have h0 : (fstepK M F1).ln = 0 := of_decide_eq_true hb.symm
      have e : apE M ⟨1, false, F1, F2⟩ = ⟨0, false, fstepK M F1, F2⟩ := by show (⟨if (fstepK M F1).ln = 0 then (if false then 2 else 0) else 1, false, fstepK M F1, F2⟩ : Ap) = _; rw [if_pos h0]; rfl
      exact ⟨rfl, AStep.one (q := freeP U (fstepK M F1)) e (X := X') ⟨h.ju, h.jv, h.uv, by rw [List.length_set]; exact h.hu, by rw [List.length_set]; exact h.hv, _, h', _, _, rfl⟩ h.hv⟩
    · have h0 : ¬ (fstepK M F1).ln = 0 := of_decide_eq_false hb.symm
      have e : apE M ⟨1, false, F1, F2⟩ = ⟨1, false, fstepK M F1, F2⟩ := by show (⟨if (fstepK M F1).ln = 0 then (if false then 2 else 0) else 1, false, fstepK M F1, F2⟩ : Ap) = _; rw [if_neg h0]
      have h2 := h'.put 0 rfl 0 (.slice (some ⟨LB, 0, none⟩) 1 1) rfl
      exact ⟨rfl, AStep.one (q := freeP U (fstepK M F1)) e (X := X') ⟨h.ju, h.jv, h.uv, by rw [List.length_set]; exact h.hu, by rw [List.length_set]; exact h.hv, _, h2, V, LB, U, rfl, List.getElem?_set_self h.hu⟩ h.hv⟩
theorem aline_1two {F1 F2 : Fr} (h : ApAt w0 w base WB M r j u v ⟨1, true, F1, F2⟩ B X) (ok : FOk F1) (hn : M.n ≤ 1000000000) (hp : M.pn ≤ 1000000000) :
    Calls Tryz.prog 66 #[.pointer (some ⟨B, 0, none⟩), Pw WB] w fun e w' => e = .returned (.tuple #[]) ∧ AStep w0 w' base WB M r j u v ⟨1, true, F1, F2⟩ B := by
  obtain ⟨l, hw, V1, V2, LB, U1, U2, c, row, rfl, hw0, hw1, hc2, hr1, hr2⟩ := h.at'
  have hc := aq_cell hw rfl
  have hw1' := hw.put 0 rfl 0 (.slice (restA LB 0 (c + 1)) (1) (c + 1)) rfl
  have hst := leave_step hw1' h.ju hr1 1 (V := V1) rfl (ok.ok hn hp) ok.ln
  refine (todo_leave (LB := LB) (i := 0) (n := 1) (c := c + 1) (V := V1) (Q := fun bo w' => bo = decide ((fstepK M F1).ln = 0) ∧ ∃ X', Wq w0 w' base WB (fstepM M F1) (r.set u (freeP U1 (fstepK M F1))) j (twoR B V1 V2 LB U1 U2 row 1 1 (c + 1)) X') (by omega) (by omega) (by omega) hc.1 hc.2 (cell_at (hw1'.blk 3 rfl) hw0) (hst.mono ?_) ?_).mono ?_
  · rintro e w' ⟨rfl, X', h'⟩
    exact ⟨_, rfl, rfl, X', h'⟩
  · rintro w' ⟨_, X', h'⟩
    exact ⟨(aq_cell h' rfl).2, _, (aq_cell h' rfl).1⟩
  · rintro e w' ⟨rfl, ⟨hb, X', h'⟩ | ⟨w2, ⟨hb, X', h'⟩, rfl⟩⟩
    · have h0 : (fstepK M F1).ln = 0 := of_decide_eq_true hb.symm
      have e : apE M ⟨1, true, F1, F2⟩ = ⟨2, true, fstepK M F1, F2⟩ := by show (⟨if (fstepK M F1).ln = 0 then (if true then 2 else 0) else 1, true, fstepK M F1, F2⟩ : Ap) = _; rw [if_pos h0]; rfl
      exact ⟨rfl, AStep.one (q := freeP U1 (fstepK M F1)) e (X := X') ⟨h.ju, h.jv, h.uv, by rw [List.length_set]; exact h.hu, by rw [List.length_set]; exact h.hv, _, h', V1, V2, LB, U1, U2, c, row, rfl, hw1, hc2, set_oth hr2 h.uv⟩ h.hv⟩
    · have h0 : ¬ (fstepK M F1).ln = 0 := of_decide_eq_false hb.symm
      have e : apE M ⟨1, true, F1, F2⟩ = ⟨1, true, fstepK M F1, F2⟩ := by show (⟨if (fstepK M F1).ln = 0 then (if true then 2 else 0) else 1, true, fstepK M F1, F2⟩ : Ap) = _; rw [if_neg h0]
      have h2 := h'.put 0 rfl 0 (.slice (some ⟨LB, 0, none⟩) 2 (c + 2)) rfl
      exact ⟨rfl, AStep.one (q := freeP U1 (fstepK M F1)) e (X := X') ⟨h.ju, h.jv, h.uv, by rw [List.length_set]; exact h.hu, by rw [List.length_set]; exact h.hv, _, h2, V1, V2, LB, U1, U2, c, row, rfl, hw0, hw1, hc2, set_get hr1, set_oth hr2 h.uv⟩ h.hv⟩
theorem aline_2 {F1 F2 : Fr} {tw : Bool} (h : ApAt w0 w base WB M r j u v ⟨2, tw, F1, F2⟩ B X) (ok : FOk F2) (hn : M.n ≤ 1000000000) (hp : M.pn ≤ 1000000000) :
    Calls Tryz.prog 66 #[.pointer (some ⟨B, 0, none⟩), Pw WB] w fun e w' => e = .returned (.tuple #[]) ∧ AStep w0 w' base WB M r j u v ⟨2, tw, F1, F2⟩ B := by
  obtain ⟨l, hw, V1, V2, LB, U1, U2, c, row, rfl, hw1, hc2, hr2⟩ := h.at'
  have hc := aq_cell hw rfl
  have hw1' := hw.put 0 rfl 0 (.slice (restA LB 1 (c)) (0) (c)) rfl
  have hst := leave_step hw1' h.jv hr2 2 (V := V2) rfl (ok.ok hn hp) ok.ln
  refine (todo_leave (LB := LB) (i := 1) (n := 0) (c := c) (V := V2) (Q := fun bo w' => bo = decide ((fstepK M F2).ln = 0) ∧ ∃ X', Wq w0 w' base WB (fstepM M F2) (r.set v (freeP U2 (fstepK M F2))) j [(B, .cells #[.slice (restA LB 1 c) 0 c] 78 (0, 0)), (V1, .cells #[Pw U1] 270 (0, 0)), (V2, .cells #[Pw U2] 270 (0, 0)), (LB, .cells row 167 (0, 0))] X') (by omega) (by omega) (by omega) hc.1 hc.2 (cell_at (hw1'.blk 3 rfl) hw1) (hst.mono ?_) ?_).mono ?_
  · rintro e w' ⟨rfl, X', h'⟩
    exact ⟨_, rfl, rfl, X', h'⟩
  · rintro w' ⟨_, X', h'⟩
    exact ⟨(aq_cell h' rfl).2, _, (aq_cell h' rfl).1⟩
  · rintro e w' ⟨rfl, ⟨hb, X', h'⟩ | ⟨w2, ⟨hb, X', h'⟩, rfl⟩⟩
    · have h0 : (fstepK M F2).ln = 0 := of_decide_eq_true hb.symm
      have e : apE M ⟨2, tw, F1, F2⟩ = ⟨0, tw, F1, fstepK M F2⟩ := by show (⟨if (fstepK M F2).ln = 0 then 0 else 2, tw, F1, fstepK M F2⟩ : Ap) = _; rw [if_pos h0]
      exact ⟨rfl, AStep.two (q := freeP U2 (fstepK M F2)) e (X := X') ⟨h.ju, h.jv, h.uv, by rw [List.length_set]; exact h.hu, by rw [List.length_set]; exact h.hv, _, h', _, _, rfl⟩ h.hu⟩
    · have h0 : ¬ (fstepK M F2).ln = 0 := of_decide_eq_false hb.symm
      have e : apE M ⟨2, tw, F1, F2⟩ = ⟨2, tw, F1, fstepK M F2⟩ := by show (⟨if (fstepK M F2).ln = 0 then 0 else 2, tw, F1, fstepK M F2⟩ : Ap) = _; rw [if_neg h0]
      have h2 := h'.put 0 rfl 0 (.slice (some ⟨LB, 1, none⟩) 1 (c + 1)) rfl
      exact ⟨rfl, AStep.two (q := freeP U2 (fstepK M F2)) e (X := X') ⟨h.ju, h.jv, h.uv, by rw [List.length_set]; exact h.hu, by rw [List.length_set]; exact h.hv, _, h2, V1, V2, LB, U1, U2, c, row, rfl, hw1, hc2, set_get hr2⟩ h.hu⟩
theorem aover_any {n c : Nat} {P : Option Addr} (k : Nat) (h : Wq w0 w base WB M r j l X) (hb : l[k]? = some (B, .cells #[.slice P n c] 78 (0, 0))) : Calls Tryz.prog 28 #[Pw B] w fun e w' => e = .returned (.bool (decide (n = 0))) ∧ Below w.heap.size w w' := by
  have y0 : w.cell? ⟨B, 0, none⟩ = some (.slice P n c) := cell_row (h.blk k hb) 0
  have d1 : ((n : Int) == 0) = decide (n = 0) := by by_cases e : n = 0 <;> simp [e]
  have d2 : decide ((n : Int) = 0) = decide (n = 0) := by by_cases e : n = 0 <;> simp [e]
  generalize decide (n = 0) = d at *
  clear h hb
  go_enter Tryz.func28, Tryz.ntmps28
  go_wp2_with fail
  go_ret
  exact ⟨by simp [d1, d2], Below.refl _ _⟩
theorem ApAt.over (h : ApAt w0 w base WB M r j u v Q B X) (ok : ApOk Q) : Calls Tryz.prog 28 #[Pw B] w fun e w' => e = .returned (.bool (decide (Q.ln = 0))) ∧ Below w.heap.size w w' := by
  obtain ⟨l, hw, hs⟩ := h.at'
  obtain ⟨ln, two, F1, F2⟩ := Q
  have hln : ln ≤ 2 := ok.ln
  rcases (show ln = 0 ∨ ln = 1 ∨ ln = 2 by omega) with rfl | rfl | rfl
  · obtain ⟨P, c, hl⟩ := hs
    exact aover_any 0 hw hl
  · cases two
    · obtain ⟨V, LB, U, rfl, _⟩ := hs
      exact aover_any (n := 1) 0 hw rfl
    · obtain ⟨V1, V2, LB, U1, U2, c, row, rfl, _⟩ := hs
      exact aover_any (n := 2) 0 hw rfl
  · obtain ⟨V1, V2, LB, U1, U2, c, row, rfl, _⟩ := hs
    exact aover_any (n := 1) 0 hw rfl
theorem apart_todo (h : ApAt w0 w base WB M r j u v Q B X) (ok : ApOk Q) (hn : M.n ≤ 1000000000) (hp : M.pn ≤ 1000000000) (h0 : Q.ln ≠ 0) :
    Calls Tryz.prog 66 #[.pointer (some ⟨B, 0, none⟩), Pw WB] w fun e w' => e = .returned (.tuple #[]) ∧ AStep w0 w' base WB M r j u v Q B := by
  obtain ⟨ln, two, F1, F2⟩ := Q
  have hln : ln ≤ 2 := ok.ln
  have h0' : ln ≠ 0 := h0
  rcases (show ln = 1 ∨ ln = 2 by omega) with rfl | rfl
  · cases two
    · exact aline_1one h ok.f1 hn hp
    · exact aline_1two h ok.f1 hn hp
  · exact aline_2 h ok.f2 hn hp
theorem astep_any (h : ApAt w0 w base WB M r j u v Q B X) (ok : ApOk Q) (hn : M.n ≤ 1000000000) (hp : M.pn ≤ 1000000000) (h0 : Q.ln ≠ 0) :
    Calls Tryz.prog 29 #[Pw B, Pw WB] w fun e w' => e = .returned (.bool (decide ((apE M Q).ln = 0))) ∧ AStep w0 w' base WB M r j u v Q B := by
  have hov := h.over ok
  rw [decide_eq_false h0] at hov
  have hst := fun (W : World) (hb : Below w.heap.size w W) => apart_todo (h.new hb) ok hn hp h0
  have hov2 : ∀ W, AStep w0 W base WB M r j u v Q B → Calls Tryz.prog 28 #[Pw B] W fun e w' => e = .returned (.bool (decide ((apE M Q).ln = 0))) ∧ AStep w0 w' base WB M r j u v Q B := fun W ⟨q1, q2, X', h'⟩ => by
    refine (h'.over (ok.step h.look h.lk)).mono ?_
    rintro e w' ⟨rfl, hb⟩
    exact ⟨rfl, q1, q2, X', h'.new hb⟩
  have HOV := Lib.hid hov; have HST := Lib.hid hst; have HOV2 := Lib.hid hov2
  clear h ok hn hp h0 hov hst hov2
  generalize decide ((apE M Q).ln = 0) = b at *
  go_enter Tryz.func29, Tryz.ntmps29
  go_upto_region 2 with (go_at_call 28; refine HOV.out.mono ?_; rintro e w2 ⟨rfl, hb2⟩; have HB2 := Lib.hid hb2; clear hb2)
  go_upto_region 3 with (go_at_call 66; refine (HST.out _ HB2.out).mono ?_; rintro e w3 ⟨rfl, hs⟩; have HS := Lib.hid hs; clear hs)
  go_wp2_with (go_at_call 28; refine (HOV2.out _ HS.out).mono ?_; rintro e w4 ⟨rfl, hs⟩; have HS4 := Lib.hid hs; clear hs)
  go_ret
  exact ⟨rfl, HS4.out⟩
theorem new_apart_one (h : Pg w0 w base WB M r X) {pb pi qb qi : Int} {a b : Nat} (hz1 : S10.lockZ pb pi = (a : Int)) (hz2 : S10.lockZ qb qi = (b : Int)) (he : pb = qb ∧ pi = qi) :
    Calls Tryz.prog 27 #[.agg #[.int .i64 pb, .int .i64 pi], .agg #[.int .i64 qb, .int .i64 qi]] w fun e w' => ∃ B q1 q2, e = .returned (Pw B) ∧ ApAt w0 w' base WB M (((r ++ [noP, noP, noP]).set (r.length + 1) q1).set (r.length + 2) q2) r.length (r.length + 1) (r.length + 2) (ap0 false a b) B X := by
  have g1 := Pg.push1 h (rowsP []) (Below.refl _ _) ⟨fun x hx => by simp at hx, List.nodup_nil⟩ (fun k hk => by obtain ⟨ob, he⟩ := hk; simp at he)
  have g2 := Pg.push1 g1 noP (Below.refl _ _) trivial (fun k e => e.elim)
  have g3 := Pg.push1 g2 noP (Below.refl _ _) trivial (fun k e => e.elim)
  simp only [List.append_assoc, List.cons_append, List.nil_append] at g3
  have hq : Wq w0 w base WB M (r ++ [noP, noP, noP]) r.length [] X := by
    refine ⟨?_, by rw [List.length_append]; show _ < _ + 3; omega⟩
    rw [List.set_append_right _ _ (Nat.le_refl _), Nat.sub_self]
    exact g3
  have HJ : Hid (r.length ≠ r.length + 1 ∧ r.length ≠ r.length + 2 ∧ r.length + 1 < (r ++ [noP, noP, noP]).length ∧ ∀ q, r.length + 2 < ((r ++ [noP, noP, noP]).set (r.length + 1) q).length) := Lib.hid (by
    refine ⟨by omega, by omega, by rw [List.length_append]; show _ < _ + 3; omega, fun q => ?_⟩
    rw [List.length_set, List.length_append]; show _ < _ + 3; omega)
  have HJUV : Hid (r.length + 1 ≠ r.length + 2) := Lib.hid (by omega)
  generalize (r ++ [noP, noP, noP]) = R at *
  generalize r.length + 1 = u at *
  generalize r.length + 2 = v at *
  generalize r.length = j at *
  have h1 := hq.push (.cells #[.int .i64 pb, .int .i64 pi] 27)
  have h2 := h1.push (.cells #[.int .i64 qb, .int .i64 qi] 27)
  obtain ⟨PB, hPB⟩ : ∃ PB, PB = w.heap.size := ⟨_, rfl⟩
  obtain ⟨QB, hQB⟩ : ∃ QB, QB = (w.alloc (.cells #[.int .i64 pb, .int .i64 pi] 27)).heap.size := ⟨_, rfl⟩
  rw [← hPB, ← hQB] at h2
  simp only [List.append_assoc, List.cons_append, List.nil_append] at h2
  have hQ2 : QB = PB + 1 := by rw [hQB, alloc_size, hPB]
  obtain ⟨rfl, rfl⟩ := he
  have hd := neqS pb pi
  have H2 := Lib.hid h2; have HZ1 := Lib.hid hz1; have HZ := Lib.hid hz2; have HPB := Lib.hid hPB; have HQB := Lib.hid hQ2
  clear h g1 g2 g3 hq h1 h2 hz1 hz2 hPB hQB hQ2
  go_enter Tryz.func27, Tryz.ntmps27
  go_upto_region 1 with (fail)
  rw [← HPB.out, ← HQB.out]
  generalize (w.alloc (.cells #[.int .i64 pb, .int .i64 pi] 27)).alloc (.cells #[.int .i64 pb, .int .i64 pi] 27) = w2 at *
  have c0 : w2.cell? ⟨PB, 0, none⟩ = some (.int .i64 pb) := cell_row (H2.out.blk 0 rfl) 0
  have c1 : w2.cell? ⟨PB, 1, none⟩ = some (.int .i64 pi) := cell_row (H2.out.blk 0 rfl) 1
  have HL2 := Lib.hid (leave_new H2.out HJ.out.1 HJ.out.2.2.1 HZ1.out)
  go_upto_region 2 with (go_at_call 67; refine HL2.out.mono ?_; rintro e w3 ⟨V, U, rfl, _, h3⟩)
  have h4 := h3.push (.cells #[leaveF V] 167)
  have h5 := h4.push (.cells #[.slice (some ⟨w3.heap.size, 0, none⟩) 1 1] 78)
  obtain ⟨LB, hLB⟩ : ∃ LB, LB = w3.heap.size := ⟨_, rfl⟩
  obtain ⟨B, hB⟩ : ∃ B, B = (w3.alloc (.cells #[leaveF V] 167)).heap.size := ⟨_, rfl⟩
  have hB2 : B = LB + 1 := by rw [hB, alloc_size, hLB]
  rw [← hB, ← hLB] at h5
  simp only [List.append_assoc, List.cons_append, List.nil_append] at h5
  rw [← hLB]
  (try rw [← hB2])
  have H5 := Lib.hid h5
  clear c0 c1 HL2 h3 h4 h5 hLB hB hB2 H2 HZ1 HPB HQB
  generalize (w3.alloc (.cells #[leaveF V] 167)).alloc (.cells #[.slice (some ⟨LB, 0, none⟩) 1 1] 78) = w5 at *
  have a0 : w5.cell? ⟨PB, 0, none⟩ = some (.int .i64 pb) := cell_row (H5.out.blk 0 rfl) 0
  have a1 : w5.cell? ⟨PB, 1, none⟩ = some (.int .i64 pi) := cell_row (H5.out.blk 0 rfl) 1
  have b0 : w5.cell? ⟨QB, 0, none⟩ = some (.int .i64 pb) := cell_row (H5.out.blk 1 rfl) 0
  have b1 : w5.cell? ⟨QB, 1, none⟩ = some (.int .i64 pi) := cell_row (H5.out.blk 1 rfl) 1
  go_wp2_with fail
  go_ret
  obtain ⟨q2, hq2⟩ := same_at (r := R.set u (freeP U (fr0 a))) (u := v) (HJ.out.2.2.2 _)
  refine ⟨B, freeP U (fr0 a), q2, rfl, ?_⟩
  rw [hq2]
  refine ⟨HJ.out.1, HJ.out.2.1, HJUV.out, by rw [List.length_set]; exact HJ.out.2.2.1, by have := HJ.out.2.2.2 noP; rw [List.length_set] at this ⊢; exact this, oneR B V LB U, ?_, V, LB, U, rfl, List.getElem?_set_self HJ.out.2.2.1⟩
  have hs := H5.out.at.2
  refine H5.out.only (fun x hx => ?_) ?_
  · simp only [oneR, List.mem_cons, List.not_mem_nil, or_false] at hx ⊢
    rcases hx with rfl | rfl | rfl <;> simp
  · simp only [oneR, List.map_cons, List.map_nil, List.nodup_cons, List.mem_cons, List.not_mem_nil, or_false, not_or, not_false_eq_true, List.nodup_nil, and_true] at hs ⊢
    omega
end
end Go.Proofs.YtokplfkhpjcfcaaGreat.S16
