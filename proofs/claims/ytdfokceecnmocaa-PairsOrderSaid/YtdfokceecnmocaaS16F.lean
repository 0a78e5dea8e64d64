/- A Pair's lines 1, 3, 5; its step; New; Got. -/
import Derived.Test.YtdfokceecnmocaaS16E
set_option linter.unusedVariables false
set_option linter.unusedSimpArgs false
namespace Go.Proofs.Ytdfokceecnmocaa.S16
open Go.Proofs.Ytdfokceecnmocaa Go.Proofs.Ytdfokceecnmocaa.S11 Go.Proofs.Ytdfokceecnmocaa.S12 Go.Proofs.Ytdfokceecnmocaa.S13 Go.Proofs.Ytdfokceecnmocaa.S14 Go.Proofs.Ytdfokceecnmocaa.S15
open Go.RowKit

section
variable {w0 w w' : World} {base WB : Nat} {M : Sd} {r : List Part} {j u v U B : Nat} {l l' : Rows} {X : Wm} {P : Pr}
theorem set_len {r : List Part} {u v k : Nat} {p q : Part} (h : k < r.length) : k < ((r.set u p).set v q).length := by rw [List.length_set, List.length_set]; exact h
set_option maxRecDepth 100000 in
set_option maxHeartbeats 4000000 in
theorem pline_1 {t a b tw : Nat} {K1 K2 : Lk} {F : Fr} (h : PairAt w0 w base WB M r j u v ⟨1, t, a, b, tw, K1, K2, F⟩ B X) (ht : t < 64) (ha : a < 4294967296) (hb : b < 4294967296) (hn : M.n ≤ 1000000000) :
    Calls Try.prog 33 #[.pointer (some ⟨B, 6, none⟩), Pw WB] w fun e w' => e = .returned (.tuple #[]) ∧ PStep w0 w' base WB M r j u v ⟨1, t, a, b, tw, K1, K2, F⟩ B := by
  obtain ⟨l, hw, LB, XC, TC, i, kl, kx, kt, p1, q1, p2, q2, row, hl0, hll, hrow, hlx, hlt, n1, n2, n3⟩ := h.at'
  have hc := wq_cell hw hl0
  have hw1 := hw.put 0 hl0 6 (.slice (some ⟨LB, i, none⟩) 0 0) rfl
  have hst := look_step hw1 hn h.ju h.jv h.uv h.hu h.hv rfl ht ha hb (List.getElem?_set_self (List.getElem?_eq_some_iff.1 hl0).1) (set_at2 hlx n2) (set_at2 hlt n3) n2 n3
  refine (todo_look (LB := LB) (i := i) (n := 0) (c := 0) (Q := fun bo w' => bo = true ∧ ∃ X' U1 U2 OR V1 XC TC KB OB V2 LB, Wq w0 w' base WB (M.acc 1 0 (S2.look M.L 0)) ((r.set u (lockP U1 (lk1 t (lokN (loK a b (S2.look M.L 0)) (S2.look M.L 0))))).set v (lockP U2 (lk1 t (lokN (hiK a b (S2.look M.L 0)) (S2.look M.L 0))))) j (twoL B OR V1 XC TC KB OB V2 LB a b t (S2.look M.L 0) U1 U2 0 3) X') (by omega) (by omega) (by omega) hc.1 hc.2 ?_ (hst.mono ?_) ?_).mono ?_
  · have hb1 := hw1.blk kl (set_at2 hll n1)
    show (w.setCell ⟨B, 6, none⟩ (.slice (some ⟨LB, i, none⟩) 0 0)).cell? ⟨LB, i, none⟩ = _
    exact (cell_row hb1 i).trans hrow
  · rintro e w' ⟨rfl, h'⟩
    exact ⟨true, rfl, rfl, h'⟩
  · rintro w' ⟨e, _⟩
    cases e
  · rintro e w' ⟨rfl, ⟨_, X', U1, U2, OR, V1, XC, TC, KB, OB, V2, LB, h'⟩ | ⟨w2, ⟨e, _⟩, _⟩⟩
    · refine ⟨rfl, lockP U1 (lk1 t (lokN (loK a b (S2.look M.L 0)) (S2.look M.L 0))), lockP U2 (lk1 t (lokN (hiK a b (S2.look M.L 0)) (S2.look M.L 0))), X', h.ju, h.jv, h.uv, set_len h.hu, set_len h.hv, _, h', ?_⟩
      exact ⟨OR, V1, XC, TC, KB, OB, V2, LB, U1, U2, rfl, set_oth (List.getElem?_set_self h.hu) (Ne.symm h.uv), List.getElem?_set_self (by rw [List.length_set]; exact h.hv)⟩
    · cases e
set_option maxRecDepth 100000 in
set_option maxHeartbeats 4000000 in
theorem pline_3 {t a b tw : Nat} {K1 K2 : Lk} {F : Fr} (h : PairAt w0 w base WB M r j u v ⟨3, t, a, b, tw, K1, K2, F⟩ B X) (hn : M.n ≤ 1000000000) :
    Calls Try.prog 33 #[.pointer (some ⟨B, 6, none⟩), Pw WB] w fun e w' => e = .returned (.tuple #[]) ∧ PStep w0 w' base WB M r j u v ⟨3, t, a, b, tw, K1, K2, F⟩ B := by
  obtain ⟨l, hw, OR, V1, XC, TC, KB, OB, V2, LB, U1, U2, rfl, hr1, hr2⟩ := h.at'
  have hc := wq_cell hw rfl
  have hw1 : Wq w0 (w.setCell ⟨B, 6, none⟩ (.slice (some ⟨LB, 2, none⟩) 1 1)) base WB M r j (twoL B OR V1 XC TC KB OB V2 LB a b t tw U1 U2 2 1) X := hw.put 0 rfl 6 (.slice (some ⟨LB, 2, none⟩) 1 1) rfl
  have hfin : Calls Try.prog 62 #[Pw WB, Pw KB, Pw OB, Pw XC, Pw TC] (w.setCell ⟨B, 6, none⟩ (.slice (some ⟨LB, 2, none⟩) 1 1)) fun e w' => ∃ bo, e = .returned (.bool bo) ∧ bo = true ∧ PStep w0 w' base WB M r j u v ⟨3, t, a, b, tw, K1, K2, F⟩ B := by
    by_cases hx : S2.look M.L 0 = tw
    · by_cases hs : bktN a tw = bktN b tw
      · have e : prE M ⟨3, t, a, b, tw, K1, K2, F⟩ = ⟨0, t, a, b, tw, K1, K2, F⟩ := by
          show (if S2.look M.L 0 = tw then (⟨if bktN a tw = bktN b tw then 0 else 4, t, a, b, tw, K1, K2, F⟩ : Pr) else _) = _
          rw [if_pos hx, if_pos hs]
        have hlh : bktN (loK a b tw) tw = bktN (hiK a b tw) tw := by
          by_cases g : bktN b tw < bktN a tw
          · rw [hs] at g; exact absurd g (Nat.lt_irrefl _)
          · rw [show loK a b tw = a from if_neg g, show hiK a b tw = b from if_neg g]; exact hs
        refine (ask_same hw1 hn rfl hx (k0 := 0) (kk := 5) (kx := 3) (ko := 6) (B := B) rfl rfl rfl rfl ⟨rfl, congrArg Nat.cast hlh⟩).mono ?_
        rintro e' w' ⟨rfl, X', h'⟩
        exact ⟨true, rfl, rfl, PStep.none e (X := X') ⟨h.ju, h.jv, h.uv, h.hu, h.hv, _, h', none, 0, rfl⟩⟩
      · have e : prE M ⟨3, t, a, b, tw, K1, K2, F⟩ = ⟨4, t, a, b, tw, K1, K2, F⟩ := by
          show (if S2.look M.L 0 = tw then (⟨if bktN a tw = bktN b tw then 0 else 4, t, a, b, tw, K1, K2, F⟩ : Pr) else _) = _
          rw [if_pos hx, if_neg hs]
        have hlh : ¬ ((bitsN tw : Int) = (bitsN tw : Int) ∧ (bktN (loK a b tw) tw : Int) = (bktN (hiK a b tw) tw : Int)) := by
          rintro ⟨_, g0⟩
          have g1 : bktN (loK a b tw) tw = bktN (hiK a b tw) tw := Int.ofNat.inj g0
          by_cases g : bktN b tw < bktN a tw
          · rw [show loK a b tw = b from if_pos g, show hiK a b tw = a from if_pos g] at g1; exact hs g1.symm
          · rw [show loK a b tw = a from if_neg g, show hiK a b tw = b from if_neg g] at g1; exact hs g1
        refine (ask_two hw1 hn rfl hx (k0 := 0) (kk := 5) (kx := 3) (ko := 6) (B := B) rfl rfl rfl rfl hlh).mono ?_
        rintro e' w' ⟨rfl, X', h'⟩
        exact ⟨true, rfl, rfl, PStep.none e (X := X') ⟨h.ju, h.jv, h.uv, h.hu, h.hv, _, h', OR, V1, XC, TC, KB, OB, V2, LB, U1, U2, rfl, hr1, hr2⟩⟩
    · have e : prE M ⟨3, t, a, b, tw, K1, K2, F⟩ = ⟨5, t, a, b, tw, K1, K2, fr0 (lokN (loK a b tw) tw)⟩ := by
        show (if S2.look M.L 0 = tw then _ else (⟨5, t, a, b, tw, K1, K2, fr0 (lokN (loK a b tw) tw)⟩ : Pr)) = _
        rw [if_neg hx]
      refine (ask_else hw1 hn h.ju h.hu rfl hx (k0 := 0) (kk := 5) (kx := 3) (ko := 6) (kt := 4) (B := B) rfl rfl rfl rfl rfl (lok_lock (loK a b tw) tw) ⟨by decide, by decide, by decide⟩).mono ?_
      rintro e' w' ⟨rfl, X', V, U, XC', TC', LB', h'⟩
      exact ⟨true, rfl, rfl, PStep.one e (X := X') (q := freeP U (fr0 (lokN (loK a b tw) tw))) ⟨h.ju, h.jv, h.uv, by rw [List.length_set]; exact h.hu, by rw [List.length_set]; exact h.hv, _, h', V, U, XC', TC', LB', _, _, _, _, rfl, List.getElem?_set_self h.hu⟩ h.hv⟩
  refine (todo_ask (LB := LB) (i := 1) (n := 1) (c := 1) (Q := fun bo w' => bo = true ∧ PStep w0 w' base WB M r j u v ⟨3, t, a, b, tw, K1, K2, F⟩ B) (by omega) (by omega) (by omega) hc.1 hc.2 (cell_row (hw1.blk 8 rfl) 1) (hfin.mono ?_) ?_).mono ?_
  · rintro e w' ⟨bo, rfl, h'⟩
    exact ⟨bo, rfl, h'⟩
  · rintro w' ⟨e, _⟩
    cases e
  · rintro e w' ⟨rfl, ⟨_, h'⟩ | ⟨w2, ⟨e, _⟩, _⟩⟩
    · exact ⟨rfl, h'⟩
    · cases e
set_option maxRecDepth 100000 in
set_option maxHeartbeats 4000000 in
theorem pline_5 {t a b tw : Nat} {K1 K2 : Lk} {F : Fr} (h : PairAt w0 w base WB M r j u v ⟨5, t, a, b, tw, K1, K2, F⟩ B X) (ok : FOk F) (hn : M.n ≤ 1000000000) (hp : M.pn ≤ 1000000000) :
    Calls Try.prog 33 #[.pointer (some ⟨B, 6, none⟩), Pw WB] w fun e w' => e = .returned (.tuple #[]) ∧ PStep w0 w' base WB M r j u v ⟨5, t, a, b, tw, K1, K2, F⟩ B := by
  obtain ⟨l, hw, V, U, XC, TC, LB, p1, q1, p2, q2, rfl, hr1⟩ := h.at'
  have hc := wq_cell hw rfl
  have hw1 := hw.put 0 rfl 6 (.slice (some ⟨LB, 1, none⟩) 1 1) rfl
  have hst := leave_step hw1 h.ju hr1 1 (V := V) rfl (ok.ok hn hp) ok.ln
  refine (todo_leave (LB := LB) (i := 0) (n := 1) (c := 1) (V := V) (Q := fun bo w' => bo = decide ((fstepK M F).ln = 0) ∧ ∃ X', Wq w0 w' base WB (fstepM M F) (r.set u (freeP U (fstepK M F))) j [(B, .cells (pairC a b p1 q1 p2 q2 (.slice (some ⟨LB, 1, none⟩) 1 1)) 120 (0, 0)), (V, .cells #[Pw U] 47 (0, 0)), (XC, .cells #[Pw B] 56 (0, 0)), (TC, .cells #[.int .i64 (t : Int)] 3 (0, 0)), (LB, .cells #[leaveF V, lookF XC TC] 121 (0, 0))] X') (by omega) (by omega) (by omega) hc.1 hc.2 (cell_row (hw1.blk 4 rfl) 0) (hst.mono ?_) ?_).mono ?_
  · rintro e w' ⟨rfl, X', h'⟩
    exact ⟨_, rfl, rfl, X', h'⟩
  · rintro w' ⟨_, X', h'⟩
    exact ⟨(wq_cell h' rfl).2, _, (wq_cell h' rfl).1⟩
  · rintro e w' ⟨rfl, ⟨hb, X', h'⟩ | ⟨w2, ⟨hb, X', h'⟩, rfl⟩⟩
    · have h0 : (fstepK M F).ln = 0 := of_decide_eq_true hb.symm
      have e : prE M ⟨5, t, a, b, tw, K1, K2, F⟩ = ⟨1, t, a, b, tw, K1, K2, fstepK M F⟩ := by show (⟨if (fstepK M F).ln = 0 then 1 else 5, t, a, b, tw, K1, K2, fstepK M F⟩ : Pr) = _; rw [if_pos h0]
      exact ⟨rfl, PStep.one (q := freeP U (fstepK M F)) e (X := X') ⟨h.ju, h.jv, h.uv, by rw [List.length_set]; exact h.hu, by rw [List.length_set]; exact h.hv, _, h', LB, XC, TC, 1, 4, 2, 3, p1, q1, p2, q2, _, rfl, rfl, rfl, rfl, rfl, by decide, by decide, by decide⟩ h.hv⟩
    · have h0 : ¬ (fstepK M F).ln = 0 := of_decide_eq_false hb.symm
      have e : prE M ⟨5, t, a, b, tw, K1, K2, F⟩ = ⟨5, t, a, b, tw, K1, K2, fstepK M F⟩ := by show (⟨if (fstepK M F).ln = 0 then 1 else 5, t, a, b, tw, K1, K2, fstepK M F⟩ : Pr) = _; rw [if_neg h0]
      have h2 := h'.put 0 rfl 6 (.slice (some ⟨LB, 0, none⟩) 2 2) rfl
      exact ⟨rfl, PStep.one (q := freeP U (fstepK M F)) e (X := X') ⟨h.ju, h.jv, h.uv, by rw [List.length_set]; exact h.hu, by rw [List.length_set]; exact h.hv, _, h2, V, U, XC, TC, LB, p1, q1, p2, q2, rfl, List.getElem?_set_self h.hu⟩ h.hv⟩
/-- A step of what is left of a Pair that is not over. -/
theorem pair_todo (h : PairAt w0 w base WB M r j u v P B X) (ok : PrOk P) (ms : 0 ≤ M.sp ∧ M.sp ≤ 16) (hn : M.n ≤ 1000000000) (hp : M.pn ≤ 1000000000) (h0 : P.ln ≠ 0) :
    Calls Try.prog 33 #[.pointer (some ⟨B, 6, none⟩), Pw WB] w fun e w' => e = .returned (.tuple #[]) ∧ PStep w0 w' base WB M r j u v P B := by
  obtain ⟨ln, t, a, b, tw, K1, K2, F⟩ := P
  have hln : ln ≤ 5 := ok.ln
  have h0' : ln ≠ 0 := h0
  rcases (show ln = 1 ∨ ln = 2 ∨ ln = 3 ∨ ln = 4 ∨ ln = 5 by omega) with rfl | rfl | rfl | rfl | rfl
  · exact pline_1 h ok.t ok.a ok.b hn
  · exact pline_2 h ok.k1 ms hn hp
  · exact pline_3 h hn
  · exact pline_4 h ok.k2 ms hn hp
  · exact pline_5 h ok.f hn hp
theorem PairAt.over (h : PairAt w0 w base WB M r j u v P B X) (ok : PrOk P) : Calls Try.prog 20 #[Pw B] w fun e w' => e = .returned (.bool (decide (P.ln = 0))) ∧ Below w.heap.size w w' := by
  obtain ⟨l, hw, hs⟩ := h.at'
  obtain ⟨ln, t, a, b, tw, K1, K2, F⟩ := P
  have hln : ln ≤ 5 := ok.ln
  rcases (show ln = 0 ∨ ln = 1 ∨ ln = 2 ∨ ln = 3 ∨ ln = 4 ∨ ln = 5 by omega) with rfl | rfl | rfl | rfl | rfl | rfl
  · obtain ⟨A, c, hl⟩ := hs
    exact over_any 0 hw hl
  · obtain ⟨LB, XC, TC, i, kl, kx, kt, p1, q1, p2, q2, row, hl0, _⟩ := hs
    exact over_any 0 hw hl0
  · obtain ⟨OR, V1, XC, TC, KB, OB, V2, LB, U1, U2, rfl, _⟩ := hs
    exact over_any (n := 3) 0 hw rfl
  · obtain ⟨OR, V1, XC, TC, KB, OB, V2, LB, U1, U2, rfl, _⟩ := hs
    exact over_any (n := 2) 0 hw rfl
  · obtain ⟨OR, V1, XC, TC, KB, OB, V2, LB, U1, U2, rfl, _⟩ := hs
    exact over_any (n := 1) 0 hw rfl
  · obtain ⟨V, U, XC, TC, LB, p1, q1, p2, q2, rfl, _⟩ := hs
    exact over_any (n := 2) 0 hw rfl
set_option maxRecDepth 100000 in
set_option maxHeartbeats 4000000 in
/-- A step of a Pair. -/
theorem pstep_any (h : PairAt w0 w base WB M r j u v P B X) (ok : PrOk P) (ms : 0 ≤ M.sp ∧ M.sp ≤ 16) (hn : M.n ≤ 1000000000) (hp : M.pn ≤ 1000000000) (h0 : P.ln ≠ 0) :
    Calls Try.prog 18 #[Pw B, Pw WB] w fun e w' => e = .returned (.bool (decide ((prE M P).ln = 0))) ∧ PStep w0 w' base WB M r j u v P B := by
  have hov := h.over ok
  rw [decide_eq_false h0] at hov
  have hst := fun (W : World) (hb : Below w.heap.size w W) => pair_todo (h.new hb) ok ms hn hp h0
  have hov2 : ∀ W, PStep w0 W base WB M r j u v P B → Calls Try.prog 20 #[Pw B] W fun e w' => e = .returned (.bool (decide ((prE M P).ln = 0))) ∧ PStep w0 w' base WB M r j u v P B := fun W ⟨q1, q2, X', h'⟩ => by
    refine (h'.over (ok.step ms h.look h.lk)).mono ?_
    rintro e w' ⟨rfl, hb⟩
    exact ⟨rfl, q1, q2, X', h'.new hb⟩
  have HOV := Lib.hid hov; have HST := Lib.hid hst; have HOV2 := Lib.hid hov2
  clear h ok ms hn hp h0 hov hst hov2
  generalize decide ((prE M P).ln = 0) = b at *
  go_enter Try.func18, Try.ntmps18
  go_upto_region 2 with (go_at_call 20; refine HOV.out.mono ?_; rintro e w2 ⟨rfl, hb2⟩; have HB2 := Lib.hid hb2; clear hb2)
  go_upto_region 3 with (go_at_call 33; refine (HST.out _ HB2.out).mono ?_; rintro e w3 ⟨rfl, hs⟩; have HS := Lib.hid hs; clear hs)
  go_wp2_with (go_at_call 20; refine (HOV2.out _ HS.out).mono ?_; rintro e w4 ⟨rfl, hs⟩; have HS4 := Lib.hid hs; clear hs)
  go_ret
  exact ⟨rfl, HS4.out⟩
/-- A Pair that begins. -/
def NewPr (w w' : World) (t a b : Nat) (v : Value) : Prop := ∃ B XC TC LB, v = Pw B ∧ (rowsP [(B, .cells (pairC a b 0 0 0 0 (.slice (some ⟨LB, 0, none⟩) 1 1)) 120 (0, 0)), (XC, .cells #[Pw B] 56 (0, 0)), (TC, .cells #[.int .i64 (t : Int)] 3 (0, 0)), (LB, .cells #[lookF XC TC] 121 (0, 0))]).ok w' ∧ Below w.heap.size w w' ∧ w.heap.size ≤ B ∧ w.heap.size ≤ XC ∧ w.heap.size ≤ TC ∧ w.heap.size ≤ LB
set_option maxRecDepth 100000 in
set_option maxHeartbeats 4000000 in
theorem new_pair {t a b : Nat} (ht : t < 64) (w : World) : Calls Try.prog 17 #[.int .i64 (t : Int), .int .u32 (a : Int), .int .u32 (b : Int)] w fun e w' => ∃ v, e = .returned v ∧ NewPr w w' t a b v := by
  have d1 : decide ((t : Int) < 64) = true := decide_eq_true (by omega)
  have d2 : decide ((0 : Int) ≤ (t : Int)) = true := decide_eq_true (by omega)
  have d3 : decide (t < 64) = true := decide_eq_true ht
  clear ht
  go_enter Try.func17, Try.ntmps17
  go_upto_region 3 with (fail)
  obtain ⟨w1, hw1⟩ : ∃ w1, w1 = w.alloc (.cells (pairC a b 0 0 0 0 (.slice none 0 0)) 120) := ⟨_, rfl⟩
  obtain ⟨B, hB⟩ : ∃ B, B = w.heap.size := ⟨_, rfl⟩
  have hs1 : w1.heap.size = B + 1 := by rw [hw1, hB]; exact alloc_size _ _
  have hb1 : w1.heap[B]? = some (.cells (pairC a b 0 0 0 0 (.slice none 0 0)) 120 (0, 0)) := by rw [hw1, hB]; exact heap_alloc_new _ _
  have hbl : Below w.heap.size w w1 := by rw [hw1]; exact below1 _ _
  have hw1' : w.alloc (.cells #[.int .u32 (a : Int), .int .u32 (b : Int), .int .i64 0, .int .i64 0, .int .i64 0, .int .i64 0, .slice none 0 0] 120) = w1 := hw1.symm
  rw [hw1', ← hB]
  obtain ⟨w4, hw4⟩ : ∃ w4, w4 = ((w1.alloc (.cells #[Pw B] 56)).alloc (.cells #[.int .i64 (t : Int)] 3)).alloc (.cells #[lookF (B + 1) (B + 1 + 1)] 121) := ⟨_, rfl⟩
  have hb4 : w4.heap[B]? = some (.cells (pairC a b 0 0 0 0 (.slice none 0 0)) 120 (0, 0)) := by
    rw [hw4, alloc_lt (by simp only [alloc_size, hs1]; omega), alloc_lt (by simp only [alloc_size, hs1]; omega), alloc_lt (by simp only [alloc_size, hs1]; omega)]; exact hb1
  have hx4 : w4.heap[B + 1]? = some (.cells #[Pw B] 56 (0, 0)) := by
    rw [hw4, alloc_lt (by simp only [alloc_size, hs1]; omega), alloc_lt (by simp only [alloc_size, hs1]; omega)]
    exact alloc_at hs1.symm
  have ht4 : w4.heap[B + 1 + 1]? = some (.cells #[.int .i64 (t : Int)] 3 (0, 0)) := by
    rw [hw4, alloc_lt (by simp only [alloc_size, hs1]; omega)]
    exact alloc_at (by rw [alloc_size, hs1])
  have hl4 : w4.heap[B + 1 + 1 + 1]? = some (.cells #[lookF (B + 1) (B + 1 + 1)] 121 (0, 0)) := by
    rw [hw4]
    exact alloc_at (by rw [alloc_size, alloc_size, hs1])
  have hbl4 : Below w.heap.size w w4 := by
    rw [hw4]
    refine (((hbl.alloc (by rw [hs1, ← hB]; omega) _).alloc (by rw [alloc_size, hs1, ← hB]; omega) _).alloc (by rw [alloc_size, alloc_size, hs1, ← hB]; omega) _)
  have y4 : (((w1.alloc (.cells #[Pw B] 56)).alloc (.cells #[.int .i64 (t : Int)] 3)).alloc (.cells #[lookF (B + 1) (B + 1 + 1)] 121)).cell? ⟨B, 6, none⟩ = some (.slice none 0 0) := by rw [← hw4]; exact cell_row hb4 6
  have f4 : (((w1.alloc (.cells #[Pw B] 56)).alloc (.cells #[.int .i64 (t : Int)] 3)).alloc (.cells #[lookF (B + 1) (B + 1 + 1)] 121)).frozen? ⟨B, 6, none⟩ = false := by rw [← hw4]; exact froz_row hb4 6
  have HL : Hid (Calls Try.prog 32 #[Pw B, .int .i64 (t : Int)] w1 fun e w' => e = .returned (lookF (B + 1) (B + 1 + 1)) ∧ w' = (w1.alloc (.cells #[Pw B] 56)).alloc (.cells #[.int .i64 (t : Int)] 3)) := Lib.hid (by
    have := look_new B (t : Int) w1
    rwa [hs1] at this)
  have H4 := Lib.hid (And.intro hb4 (And.intro hx4 (And.intro ht4 (And.intro hl4 hbl4)))); have HW4 := Lib.hid hw4; have HB := Lib.hid hB; have HS1 := Lib.hid hs1
  clear hb4 hx4 ht4 hl4 hbl4 hw4 hB hb1 hbl hw1' hw1 hs1
  go_upto_region 4 with (go_at_call 32; refine HL.out.mono ?_; rintro e w2 ⟨rfl, rfl⟩)
  rw [← HW4.out, HS1.out]
  clear y4 f4 HL
  go_wp2_with fail
  go_ret
  obtain ⟨hb4, hx4, ht4, hl4, hbl4⟩ := H4.out
  have hb5 := set_blk hb4 6 (.slice (some ⟨B + 1 + 1 + 1, 0, none⟩) 1 1) _ rfl
  refine ⟨_, rfl, B, B + 1, B + 1 + 1, B + 1 + 1 + 1, rfl, ⟨fun x hx => ?_, ?_⟩, ?_, ?_⟩
  · simp only [List.mem_cons, List.not_mem_nil, or_false] at hx
    rcases hx with rfl | rfl | rfl | rfl
    · exact hb5
    · exact (heap_set_ne (by show B + 1 ≠ B; omega)).trans hx4
    · exact (heap_set_ne (by show B + 1 + 1 ≠ B; omega)).trans ht4
    · exact (heap_set_ne (by show B + 1 + 1 + 1 ≠ B; omega)).trans hl4
  · show [B, B + 1, B + 1 + 1, B + 1 + 1 + 1].Nodup
    simp only [List.nodup_cons, List.mem_cons, List.not_mem_nil, or_false, not_or, not_false_eq_true, List.nodup_nil, and_true]
    omega
  · exact hbl4.setCell (p := ⟨B, 6, none⟩) (by show w.heap.size ≤ B; have := HB.out; omega) _
  · have := HB.out
    exact ⟨by omega, by omega, by omega, by omega⟩
/-- A Pair that begins, beside the world. -/
theorem Pg.pair (h : Pg w0 w base WB M r X) {t a b : Nat} {v : Value} (hn : NewPr w w' t a b v) : ∃ B, v = Pw B ∧ ∃ X', PairAt w0 w' base WB M (r ++ [noP, noP, noP]) r.length (r.length + 1) (r.length + 2) (pr0 t a b) B X' := by
  obtain ⟨B, XC, TC, LB, rfl, hok, hb, h1, h2, h3, h4⟩ := hn
  have g1 := Pg.push1 h (rowsP [(B, .cells (pairC a b 0 0 0 0 (.slice (some ⟨LB, 0, none⟩) 1 1)) 120 (0, 0)), (XC, .cells #[Pw B] 56 (0, 0)), (TC, .cells #[.int .i64 (t : Int)] 3 (0, 0)), (LB, .cells #[lookF XC TC] 121 (0, 0))]) hb hok (fun k hk => by
    obtain ⟨ob, he⟩ := hk
    simp only [List.mem_cons, List.not_mem_nil, or_false, Prod.mk.injEq] at he
    rcases he with ⟨rfl, _⟩ | ⟨rfl, _⟩ | ⟨rfl, _⟩ | ⟨rfl, _⟩
    · exact h1
    · exact h2
    · exact h3
    · exact h4)
  have g2 := Pg.push1 g1 noP (Below.refl _ _) trivial (fun k e => e.elim)
  have g3 := Pg.push1 g2 noP (Below.refl _ _) trivial (fun k e => e.elim)
  simp only [List.append_assoc, List.cons_append, List.nil_append] at g3
  have hq : Wq w0 w' base WB M (r ++ [noP, noP, noP]) r.length [(B, .cells (pairC a b 0 0 0 0 (.slice (some ⟨LB, 0, none⟩) 1 1)) 120 (0, 0)), (XC, .cells #[Pw B] 56 (0, 0)), (TC, .cells #[.int .i64 (t : Int)] 3 (0, 0)), (LB, .cells #[lookF XC TC] 121 (0, 0))] X := by
    refine ⟨?_, by rw [List.length_append]; show _ < _ + 3; omega⟩
    rw [List.set_append_right _ _ (Nat.le_refl _), Nat.sub_self]
    exact g3
  exact ⟨B, rfl, X, by omega, by omega, by omega, by rw [List.length_append]; show _ < _ + 3; omega, by rw [List.length_append]; show _ < _ + 3; omega, _, hq, LB, XC, TC, 0, 3, 1, 2, 0, 0, 0, 0, _, rfl, rfl, rfl, rfl, rfl, by decide, by decide, by decide⟩
set_option maxRecDepth 100000 in
set_option maxHeartbeats 4000000 in
/-- What was got. -/
theorem got_yes {B a b c : Nat} {p1 q1 p2 q2 : Int} {Q : Option Addr} (k : Nat) (h : Wq w0 w base WB M r j l X) (hb : l[k]? = some (B, .cells (pairC a b p1 q1 p2 q2 (.slice Q 0 c)) 120 (0, 0))) : Calls Try.prog 21 #[Pw B] w fun e w' => e = .returned (.tuple #[plV p1 q1, plV p2 q2]) ∧ Below w.heap.size w w' := by
  have hov := fun (W : World) (hb2 : Below w.heap.size w W) => over_any k (h.new hb2) hb
  rw [decide_eq_true rfl] at hov
  have hl := h.lt (List.mem_of_getElem? hb)
  have hbk := h.blk k hb
  have HOV := Lib.hid hov; have HL := Lib.hid hl; have HBK := Lib.hid hbk
  clear h hov hl hbk hb
  go_enter Try.func21, Try.ntmps21
  go_upto_region 1 with (fail)
  obtain ⟨w1, hw1⟩ : ∃ w1, w1 = (w.alloc (.cells #[.int .i64 0, .int .i64 0] 39)).alloc (.cells #[.int .i64 0, .int .i64 0] 39) := ⟨_, rfl⟩
  obtain ⟨Q0, hQ0⟩ : ∃ Q0, Q0 = w.heap.size := ⟨_, rfl⟩
  have hz : (w.alloc (.cells #[.int .i64 0, .int .i64 0] 39)).heap.size = Q0 + 1 := by rw [alloc_size, hQ0]
  have hq0 : w1.heap[Q0]? = some (.cells #[.int .i64 0, .int .i64 0] 39 (0, 0)) := by
    rw [hw1, alloc_lt (by rw [hz]; omega)]; exact alloc_at hQ0
  have hq1 : w1.heap[Q0 + 1]? = some (.cells #[.int .i64 0, .int .i64 0] 39 (0, 0)) := by
    rw [hw1]; exact alloc_at hz.symm
  have hb1 : Below w.heap.size w w1 := by rw [hw1]; exact (below1 _ _).alloc (by rw [alloc_size]; omega) _
  rw [← hw1, ← hQ0]
  have H1 := Lib.hid (And.intro hq0 (And.intro hq1 hb1)); have HQ0 := Lib.hid hQ0
  clear hq0 hq1 hb1 hz hw1 hQ0
  go_upto_region 3 with (go_at_call 20; refine (HOV.out _ H1.out.2.2).mono ?_; rintro e w2 ⟨rfl, hb2⟩; have HB2 := Lib.hid hb2; clear hb2)
  have hB2 : w2.heap[B]? = some (.cells (pairC a b p1 q1 p2 q2 (.slice Q 0 c)) 120 (0, 0)) := by
    rw [HB2.out.block _ (by have := HL.out; have := H1.out.2.2.size; omega), H1.out.2.2.block _ HL.out]; exact HBK.out
  have hq0 : w2.heap[Q0]? = some (.cells #[.int .i64 0, .int .i64 0] 39 (0, 0)) := by
    rw [HB2.out.block _ (heap_lt H1.out.1)]; exact H1.out.1
  have hq1 : w2.heap[Q0 + 1]? = some (.cells #[.int .i64 0, .int .i64 0] 39 (0, 0)) := by
    rw [HB2.out.block _ (heap_lt H1.out.2.1)]; exact H1.out.2.1
  have hn0 : B ≠ Q0 := by have := HL.out; have := HQ0.out; omega
  have hn1 : B ≠ Q0 + 1 := by have := HL.out; have := HQ0.out; omega
  have hbw : Below w.heap.size w w2 := H1.out.2.2.trans (HB2.out.mono H1.out.2.2.size)
  have HW := Lib.hid (And.intro hB2 (And.intro hq0 (And.intro hq1 (And.intro hn0 (And.intro hn1 hbw)))))
  clear hB2 hq0 hq1 hn0 hn1 hbw HOV HBK H1
  refine wp_region_held_drew (S := fun w' => w'.cell? ⟨B, 2, none⟩ = some (.int .i64 p1) ∧ w'.cell? ⟨B, 3, none⟩ = some (.int .i64 q1) ∧ w'.cell? ⟨B, 4, none⟩ = some (.int .i64 p2) ∧ w'.cell? ⟨B, 5, none⟩ = some (.int .i64 q2)) (by kernel_rfl) ?_ (fun hHeld => ?_)
  · exact ⟨cell_row HW.out.1 2, cell_row HW.out.1 3, cell_row HW.out.1 4, cell_row HW.out.1 5⟩
  refine wpAnyH_take (i := 0) (oi := ({ dst := some 13, op := Op.move (Operand.tmp 0), type := 56, pos := "pairs.go:75", after := #[], guard := none } : Oper)) (v := ?vgm1) rfl (by kernel_rfl) (by kernel_rfl) (by kernel_rfl) (fun _ _ _ h => h) (Or.inl ⟨by rfl, fun w hSw => ?hygm1⟩) (by assumption) ?rgm1
  case hygm1 => (try dsimp only at hSw); go_simp; (try with_reducible rfl)
  (try simp only [Act.put, List.setIfInBounds_toArray, List.set_cons_zero, List.set_cons_succ])
  refine wpAnyH_take (i := 1) (oi := ({ dst := some 14, op := Op.nilCheck (Operand.tmp 13), type := 0, pos := "pairs.go:75", after := #[{ on := 0, ground := Ground.data }], guard := none } : Oper)) (v := ?vgm2) rfl (by kernel_rfl) (by kernel_rfl) (by kernel_rfl) (fun _ _ _ h => h) (Or.inl ⟨by rfl, fun w hSw => ?hygm2⟩) (by assumption) ?rgm2
  case hygm2 => (try dsimp only at hSw); go_simp; (try with_reducible rfl)
  (try simp only [Act.put, List.setIfInBounds_toArray, List.set_cons_zero, List.set_cons_succ])
  refine wpAnyH_take (i := 2) (oi := ({ dst := some 15, op := Op.fieldAddr 120 (Operand.tmp 14) 1, type := 0, pos := "pairs.go:75", after := #[{ on := 1, ground := Ground.data }], guard := none } : Oper)) (v := ?vgm3) rfl (by kernel_rfl) (by kernel_rfl) (by kernel_rfl) (fun _ _ _ h => h) (Or.inl ⟨by rfl, fun w hSw => ?hygm3⟩) (by assumption) ?rgm3
  case hygm3 => (try dsimp only at hSw); go_simp; (try with_reducible rfl)
  (try simp only [Act.put, List.setIfInBounds_toArray, List.set_cons_zero, List.set_cons_succ])
  refine wpAnyH_take (i := 3) (oi := ({ dst := some 16, op := Op.indexAddr 116 (Operand.tmp 15) (Operand.const (Value.int IntKind.i64 0)), type := 0, pos := "pairs.go:75", after := #[{ on := 2, ground := Ground.data }], guard := none } : Oper)) (v := ?vgm4) rfl (by kernel_rfl) (by kernel_rfl) (by kernel_rfl) (fun _ _ _ h => h) (Or.inl ⟨by rfl, fun w hSw => ?hygm4⟩) (by assumption) ?rgm4
  case hygm4 => (try dsimp only at hSw); go_simp; (try with_reducible rfl)
  (try simp only [Act.put, List.setIfInBounds_toArray, List.set_cons_zero, List.set_cons_succ])
  refine wpAnyH_take (i := 4) (oi := ({ dst := some 17, op := Op.load 39 (Operand.tmp 16), type := 39, pos := "pairs.go:75", after := #[{ on := 3, ground := Ground.data }], guard := none } : Oper)) (v := ?vgm5) rfl (by kernel_rfl) (by kernel_rfl) (by kernel_rfl) (fun _ _ _ h => h) (Or.inl ⟨by rfl, fun w hSw => ?hygm5⟩) (by assumption) ?rgm5
  case hygm5 => (try dsimp only at hSw); go_simp; (try with_reducible rfl)
  (try simp only [Act.put, List.setIfInBounds_toArray, List.set_cons_zero, List.set_cons_succ])
  refine wpAnyH_take (i := 5) (oi := ({ dst := some 18, op := Op.move (Operand.tmp 0), type := 56, pos := "pairs.go:75", after := #[{ on := 10, ground := Ground.gcOnly Departure.lateStores }], guard := none } : Oper)) (v := ?vgm6) rfl (by kernel_rfl) (by kernel_rfl) (by kernel_rfl) (fun _ _ _ h => h) (Or.inl ⟨by rfl, fun w hSw => ?hygm6⟩) (by assumption) ?rgm6
  case hygm6 => (try dsimp only at hSw); go_simp; (try with_reducible rfl)
  (try simp only [Act.put, List.setIfInBounds_toArray, List.set_cons_zero, List.set_cons_succ])
  refine wpAnyH_take (i := 6) (oi := ({ dst := some 19, op := Op.nilCheck (Operand.tmp 18), type := 0, pos := "pairs.go:75", after := #[{ on := 5, ground := Ground.data }, { on := 10, ground := Ground.gcOnly Departure.lateStores }], guard := none } : Oper)) (v := ?vgm7) rfl (by kernel_rfl) (by kernel_rfl) (by kernel_rfl) (fun _ _ _ h => h) (Or.inl ⟨by rfl, fun w hSw => ?hygm7⟩) (by assumption) ?rgm7
  case hygm7 => (try dsimp only at hSw); go_simp; (try with_reducible rfl)
  (try simp only [Act.put, List.setIfInBounds_toArray, List.set_cons_zero, List.set_cons_succ])
  refine wpAnyH_take (i := 7) (oi := ({ dst := some 20, op := Op.fieldAddr 120 (Operand.tmp 19) 1, type := 0, pos := "pairs.go:75", after := #[{ on := 6, ground := Ground.data }, { on := 10, ground := Ground.gcOnly Departure.lateStores }], guard := none } : Oper)) (v := ?vgm8) rfl (by kernel_rfl) (by kernel_rfl) (by kernel_rfl) (fun _ _ _ h => h) (Or.inl ⟨by rfl, fun w hSw => ?hygm8⟩) (by assumption) ?rgm8
  case hygm8 => (try dsimp only at hSw); go_simp; (try with_reducible rfl)
  (try simp only [Act.put, List.setIfInBounds_toArray, List.set_cons_zero, List.set_cons_succ])
  refine wpAnyH_take (i := 8) (oi := ({ dst := some 21, op := Op.indexAddr 116 (Operand.tmp 20) (Operand.const (Value.int IntKind.i64 1)), type := 0, pos := "pairs.go:75", after := #[{ on := 7, ground := Ground.data }, { on := 10, ground := Ground.gcOnly Departure.lateStores }], guard := none } : Oper)) (v := ?vgm9) rfl (by kernel_rfl) (by kernel_rfl) (by kernel_rfl) (fun _ _ _ h => h) (Or.inl ⟨by rfl, fun w hSw => ?hygm9⟩) (by assumption) ?rgm9
  case hygm9 => (try dsimp only at hSw); go_simp; (try with_reducible rfl)
  (try simp only [Act.put, List.setIfInBounds_toArray, List.set_cons_zero, List.set_cons_succ])
  refine wpAnyH_take (i := 9) (oi := ({ dst := some 22, op := Op.load 39 (Operand.tmp 21), type := 39, pos := "pairs.go:75", after := #[{ on := 8, ground := Ground.data }, { on := 10, ground := Ground.gcOnly Departure.lateStores }], guard := none } : Oper)) (v := ?vgm10) rfl (by kernel_rfl) (by kernel_rfl) (by kernel_rfl) (fun _ _ _ h => h) (Or.inl ⟨by rfl, fun w hSw => ?hygm10⟩) (by assumption) ?rgm10
  case hygm10 => (try dsimp only at hSw); go_simp; (try with_reducible rfl)
  (try simp only [Act.put, List.setIfInBounds_toArray, List.set_cons_zero, List.set_cons_succ])
  refine wpAnyH_ready (rs := [10]) (by kernel_rfl) (by simp) ?_
  refine AllReadyH.cons (o := ({ dst := none, op := Op.store 39 (Operand.tmp 2) (Operand.tmp 17), type := 0, pos := "pairs.go:75", after := #[{ on := 4, ground := Ground.data }, { on := 0, ground := Ground.phase }, { on := 1, ground := Ground.phase }, { on := 2, ground := Ground.phase }, { on := 3, ground := Ground.phase }, { on := 4, ground := Ground.phase }, { on := 5, ground := Ground.textOnly Departure.lateStores }, { on := 6, ground := Ground.textOnly Departure.lateStores }, { on := 7, ground := Ground.textOnly Departure.lateStores }, { on := 8, ground := Ground.textOnly Departure.lateStores }, { on := 9, ground := Ground.textOnly Departure.lateStores }], guard := none } : Oper)) rfl (fun Kq hKq => ?_) AllReadyH.nil
  (have y0 : w2.cell? ⟨Q0, 0, none⟩ = some (.int .i64 0) := cell_row HW.out.2.1 0; have y1 : w2.cell? ⟨Q0, 1, none⟩ = some (.int .i64 0) := cell_row HW.out.2.1 1; have f0 : w2.frozen? ⟨Q0, 0, none⟩ = false := froz_row HW.out.2.1 0; have f1 : w2.frozen? ⟨Q0, 1, none⟩ = false := froz_row HW.out.2.1 1; go_simp; have l1 : ((w2.setCell ⟨Q0, 0, none⟩ (.int .i64 p1)).setCell ⟨Q0, 1, none⟩ (.int .i64 q1)).drew.heap[Q0]? = some (.cells #[.int .i64 p1, .int .i64 q1] 39 (0, 0)) := set_blk (set_blk HW.out.2.1 0 (.int .i64 p1) _ rfl) 1 (.int .i64 q1) _ rfl; have l2 : ((w2.setCell ⟨Q0, 0, none⟩ (.int .i64 p1)).setCell ⟨Q0, 1, none⟩ (.int .i64 q1)).drew.heap[Q0 + 1]? = some (.cells #[.int .i64 0, .int .i64 0] 39 (0, 0)) := (heap_set_ne (by show Q0 + 1 ≠ Q0; omega)).trans ((heap_set_ne (by show Q0 + 1 ≠ Q0; omega)).trans HW.out.2.2.1); have l3 : ((w2.setCell ⟨Q0, 0, none⟩ (.int .i64 p1)).setCell ⟨Q0, 1, none⟩ (.int .i64 q1)).drew.heap[B]? = some (.cells (pairC a b p1 q1 p2 q2 (.slice Q 0 c)) 120 (0, 0)) := (heap_set_ne HW.out.2.2.2.1).trans ((heap_set_ne HW.out.2.2.2.1).trans HW.out.1); have l4 : Below w.heap.size w ((w2.setCell ⟨Q0, 0, none⟩ (.int .i64 p1)).setCell ⟨Q0, 1, none⟩ (.int .i64 q1)).drew := ((HW.out.2.2.2.2.2.setCell (p := ⟨Q0, 0, none⟩) (by show w.heap.size ≤ Q0; have := HQ0.out; omega) _).setCell (p := ⟨Q0, 1, none⟩) (by show w.heap.size ≤ Q0; have := HQ0.out; omega) _).drew; have HX := Lib.hid (And.intro l1 (And.intro l2 (And.intro l3 l4))); clear y0 y1 f0 f1 l1 l2 l3 l4; generalize ((w2.setCell ⟨Q0, 0, none⟩ (.int .i64 p1)).setCell ⟨Q0, 1, none⟩ (.int .i64 q1)).drew = w3 at *)
  refine hKq.out _ _ ?_ (fun hHeld => ?_)
  · exact ⟨cell_row HX.out.2.2.1 2, cell_row HX.out.2.2.1 3, cell_row HX.out.2.2.1 4, cell_row HX.out.2.2.1 5⟩
  clear hKq Kq
  (try simp only [Act.put, List.setIfInBounds_toArray, List.set_cons_zero, List.set_cons_succ])
  refine wpAnyH_ready (rs := [11]) (by kernel_rfl) (by simp) ?_
  refine AllReadyH.cons (o := ({ dst := none, op := Op.store 39 (Operand.tmp 3) (Operand.tmp 22), type := 0, pos := "pairs.go:75", after := #[{ on := 9, ground := Ground.data }, { on := 10, ground := Ground.chain }, { on := 0, ground := Ground.phase }, { on := 1, ground := Ground.phase }, { on := 2, ground := Ground.phase }, { on := 3, ground := Ground.phase }, { on := 4, ground := Ground.phase }, { on := 5, ground := Ground.phase }, { on := 6, ground := Ground.phase }, { on := 7, ground := Ground.phase }, { on := 8, ground := Ground.phase }, { on := 9, ground := Ground.phase }, { on := 10, ground := Ground.phase }], guard := none } : Oper)) rfl (fun Kq hKq => ?_) AllReadyH.nil
  (have y0 : w3.cell? ⟨Q0 + 1, 0, none⟩ = some (.int .i64 0) := cell_row HX.out.2.1 0; have y1 : w3.cell? ⟨Q0 + 1, 1, none⟩ = some (.int .i64 0) := cell_row HX.out.2.1 1; have f0 : w3.frozen? ⟨Q0 + 1, 0, none⟩ = false := froz_row HX.out.2.1 0; have f1 : w3.frozen? ⟨Q0 + 1, 1, none⟩ = false := froz_row HX.out.2.1 1; go_simp; have l1 : ((w3.setCell ⟨Q0 + 1, 0, none⟩ (.int .i64 p2)).setCell ⟨Q0 + 1, 1, none⟩ (.int .i64 q2)).heap[Q0]? = some (.cells #[.int .i64 p1, .int .i64 q1] 39 (0, 0)) := (heap_set_ne (by show Q0 ≠ Q0 + 1; omega)).trans ((heap_set_ne (by show Q0 ≠ Q0 + 1; omega)).trans HX.out.1); have l2 : ((w3.setCell ⟨Q0 + 1, 0, none⟩ (.int .i64 p2)).setCell ⟨Q0 + 1, 1, none⟩ (.int .i64 q2)).heap[Q0 + 1]? = some (.cells #[.int .i64 p2, .int .i64 q2] 39 (0, 0)) := set_blk (set_blk HX.out.2.1 0 (.int .i64 p2) _ rfl) 1 (.int .i64 q2) _ rfl; have l3 : ((w3.setCell ⟨Q0 + 1, 0, none⟩ (.int .i64 p2)).setCell ⟨Q0 + 1, 1, none⟩ (.int .i64 q2)).heap[B]? = some (.cells (pairC a b p1 q1 p2 q2 (.slice Q 0 c)) 120 (0, 0)) := (heap_set_ne HW.out.2.2.2.2.1).trans ((heap_set_ne HW.out.2.2.2.2.1).trans HX.out.2.2.1); have l4 : Below w.heap.size w ((w3.setCell ⟨Q0 + 1, 0, none⟩ (.int .i64 p2)).setCell ⟨Q0 + 1, 1, none⟩ (.int .i64 q2)) := (HX.out.2.2.2.setCell (p := ⟨Q0 + 1, 0, none⟩) (by show w.heap.size ≤ Q0 + 1; have := HQ0.out; omega) _).setCell (p := ⟨Q0 + 1, 1, none⟩) (by show w.heap.size ≤ Q0 + 1; have := HQ0.out; omega) _; have HF : Hid (_ ∧ _ ∧ _ ∧ _ ∧ _) := Lib.hid (And.intro (cell_row l1 0) (And.intro (cell_row l1 1) (And.intro (cell_row l2 0) (And.intro (cell_row l2 1) l4)))); have H3B := Lib.hid l3; clear y0 y1 f0 f1 l1 l2 l3 l4; generalize (w3.setCell ⟨Q0 + 1, 0, none⟩ (.int .i64 p2)).setCell ⟨Q0 + 1, 1, none⟩ (.int .i64 q2) = w4 at *)
  refine hKq.out _ _ ?_ (fun hHeld => ?_)
  · exact ⟨cell_row H3B.out 2, cell_row H3B.out 3, cell_row H3B.out 4, cell_row H3B.out 5⟩
  clear hKq Kq
  (try simp only [Act.put, List.setIfInBounds_toArray, List.set_cons_zero, List.set_cons_succ])
  refine wpAnyH_done (by kernel_rfl) ?_ _
  clear hHeld
  go_wp2_with fail
  exact bodyPost_ret (v := .tuple #[plV p1 q1, plV p2 q2]) (by simp [results, Try.results21, go_sem, HF.out.1, HF.out.2.1, HF.out.2.2.1, HF.out.2.2.2.1]) rfl ⟨rfl, HF.out.2.2.2.2⟩
end
end Go.Proofs.Ytdfokceecnmocaa.S16
