import Derived.Test.YtdodloannlfnlaaGreatTK
import Derived.Test.YtdodloannlfnlaaGreatS17V
import Derived.LoopTactic
import Derived.Deep.LoopGhost
set_option linter.unusedVariables false
set_option linter.unusedSimpArgs false
namespace Go.Proofs.YtdodloannlfnlaaGreat.S17
set_option maxRecDepth 100000
set_option maxHeartbeats 16000000
open Go.Proofs.YtdodloannlfnlaaGreat Go.Proofs.YtdodloannlfnlaaGreat.S11 Go.Proofs.YtdodloannlfnlaaGreat.S12 Go.Proofs.YtdodloannlfnlaaGreat.S13 Go.Proofs.YtdodloannlfnlaaGreat.S14 Go.Proofs.YtdodloannlfnlaaGreat.S15
open Go.RowKit
abbrev zJ : Obj := .cells (jcs 0 0 (.slice none 0 0)) 38
theorem vj_turn {S : Nat → Prop} {w w' : World} {v : Value} (h : VJ w v) (t : Turns S w w') (hn : ∀ B, v = Pw B → ¬ S B) : VJ w' v := by
  rcases h with h | ⟨B, h, e⟩
  · exact .inl h
  · exact .inr ⟨B, h, (t.block B (Array.getElem?_eq_some_iff.1 e).1 (hn B h)).trans e⟩
theorem row_new {w w' : World} {s : Value} {n : Nat} {cs : List Value} (h : Row w 0 1 s n cs) (b : Below w.heap.size w w') : Row w' 0 1 s n cs := Row.keep (S := fun _ => False) h ⟨b.os, b.tape, b.output, b.size, fun k hk _ => b.block k hk⟩ (fun _ _ e => e)
theorem hvj_all {w w' : World} {P : Nat} (h : VJ w (.pointer none) ∧ VJ w (Pw (P + 1))) (b : Below w.heap.size w w') (q : w'.heap[P + 3]? = some (.cells (jcs 0 0 (.slice none 0 0)) 38 (0, 0))) : VJ w' (.pointer none) ∧ VJ w' (Pw (P + 1)) ∧ VJ w' (Pw (P + 3)) := ⟨h.1.new b, h.2.new b, .inr ⟨_, rfl, q⟩⟩
theorem hvj_new {w w' : World} {P : Nat} (h : VJ w (.pointer none) ∧ VJ w (Pw (P + 1)) ∧ VJ w (Pw (P + 3))) (b : Below w.heap.size w w') : VJ w' (.pointer none) ∧ VJ w' (Pw (P + 1)) ∧ VJ w' (Pw (P + 3)) := ⟨h.1.new b, h.2.1.new b, h.2.2.new b⟩
theorem law_void (t : Int) (w : World) : Calls Tryz.prog 3 #[.int .i64 t] w fun e w' => e = .returned (.bool true) ∧ Below w.heap.size w w' := by
  have HBG := Lib.hid (begin_void w)
  have HLV := Lib.hid (fun W => lives17 W)
  have HNJ := Lib.hid (fun W => newj_yes W)
  go_enter Tryz.func3, Tryz.ntmps3
  go_upto_region 4 with (go_at_call 4; refine HBG.out.mono ?_; rintro e w2 ⟨M, X, Y, rfl, hbg⟩)
  obtain ⟨w3, hw3⟩ : ∃ w3, w3 = w2.alloc (.cells #[Pw X.wB, Pw Y.wB] 25) := ⟨_, rfl⟩
  obtain ⟨w4, hw4⟩ : ∃ w4, w4 = w3.alloc zJ := ⟨_, rfl⟩
  obtain ⟨P, hP⟩ : ∃ P, P = w2.heap.size := ⟨_, rfl⟩
  obtain ⟨w5, hw5⟩ : ∃ w5, w5 = w4.alloc (.cells #[.pointer none, Pw (P + 1)] 39) := ⟨_, rfl⟩
  have b3 : Below w2.heap.size w2 w3 := by rw [hw3]; exact below1 _ _
  have b4 : Below w3.heap.size w3 w4 := by rw [hw4]; exact below1 _ _
  have b5 : Below w4.heap.size w4 w5 := by rw [hw5]; exact below1 _ _
  have z3 : w3.heap.size = P + 1 := by rw [hw3, hP]; simp
  have z4 : w4.heap.size = P + 2 := by rw [hw4, alloc_size, z3]
  have z5 : w5.heap.size = P + 3 := by rw [hw5, alloc_size, z4]
  have q3 : w3.heap[P]? = some (.cells #[Pw X.wB, Pw Y.wB] 25 (0, 0)) := by rw [hw3, hP]; exact heap_alloc_new _ _
  have q4 : w4.heap[P + 1]? = some (.cells (jcs 0 0 (.slice none 0 0)) 38 (0, 0)) := by rw [hw4, ← z3]; exact heap_alloc_new _ _
  have q5 : w5.heap[P + 2]? = some (.cells #[.pointer none, Pw (P + 1)] 39 (0, 0)) := by rw [hw5, ← z4]; exact heap_alloc_new _ _
  have p5 := (b5.block P (by omega)).trans ((b4.block P (by omega)).trans q3)
  have v5 := (b5.block (P + 1) (by omega)).trans q4
  have hbg5 := ((hbg.new b3).new b4).new b5
  have hvj0 : VJ w5 (.pointer none) := .inl rfl
  have hvj1 : VJ w5 (Pw (P + 1)) := .inr ⟨P + 1, rfl, v5⟩
  have HVJ := Lib.hid (And.intro hvj0 hvj1)
  have HBG5 := Lib.hid hbg5; have HP5 := Lib.hid p5; have HQ5 := Lib.hid q5; have HZ5 := Lib.hid z5
  have ew : w5 = ((w2.alloc (.cells #[Pw X.wB, Pw Y.wB] 25)).alloc (.cells #[.int .i64 0, .int .i64 0, .slice none 0 0] 38)).alloc (.cells #[.pointer none, Pw (w2.heap.size + 1)] 39) := by rw [hw5, hw4, hw3, hP]; rfl
  rw [← ew, ← hP]
  have HBG2 := Lib.hid hbg; have HB25 := Lib.hid (b3.trans ((b4.trans (b5.mono b4.size)).mono b3.size)); have HPE := Lib.hid hP
  clear hbg hbg5 hw3 hw4 hw5 b3 b4 b5 z3 z4 z5 q3 q4 q5 p5 v5 hvj0 hvj1 ew hP
  by_cases h0 : t < 0
  · have d0 : decide (t < 0) = true := decide_eq_true h0
    have hvd : t < 0 ∨ 64 ≤ t := .inl h0
    clear h0
    have HNO := Lib.hid (fun W => newj_no t hvd W)
    have HQ5' : Hid (w5.heap[P + 1 + 1]? = some (.cells #[.pointer none, Pw (P + 1)] 39 (0, 0))) := HQ5
    obtain ⟨sv, hsv⟩ : ∃ sv, sv = Value.slice (some ⟨P + 1 + 1, 0, none⟩) 2 2 := ⟨_, rfl⟩
    have hr5 : Row w5 0 1 sv 2 [.pointer none, Pw (P + 1)] := by
      refine ⟨_, _, hsv, rfl, Nat.le_refl _, by decide, (fun e => by cases e), fun ad e => ?_⟩
      cases e
      refine ⟨P + 1 + 1, 0, rfl, Nat.zero_le _, by have := HZ5.out; omega, fun k u hk => ?_, fun k hk => ?_⟩
      · rw [Nat.zero_add, cell_row HQ5'.out]
        rw [← hk]; rcases k with _ | _ | k <;> rfl
      · rw [Nat.zero_add]
        refine ⟨?_, froz_row HQ5'.out k⟩
        rw [cell_row HQ5'.out]
        rcases (show k = 0 ∨ k = 1 by omega) with rfl | rfl <;> rfl
    rw [← hsv]
    have hown : ∀ g, sv.ownBlock = some g → g = P + 1 + 1 := fun g e => by rw [hsv] at e; injection e with e; exact e.symm
    have HOWN := Lib.hid hown
    have b6 := below1 w5 zJ
    have q6 : (w5.alloc zJ).heap[P + 3]? = some (.cells (jcs 0 0 (.slice none 0 0)) 38 (0, 0)) := by rw [← HZ5.out]; exact heap_alloc_new _ _
    have hr6 := row_new hr5 b6
    have hvj6 := hvj_all HVJ.out b6 q6
    have p6 := (b6.block P (by have := HZ5.out; omega)).trans HP5.out
    have hbg6 := HBG5.out.new b6
    have z6 : (w5.alloc zJ).heap.size = P + 4 := by rw [alloc_size, HZ5.out]
    obtain ⟨w6, hw6⟩ : ∃ w6, w6 = w5.alloc zJ := ⟨_, rfl⟩
    rw [← hw6] at hr6 hvj6 p6 hbg6 z6
    have b7 := below1 w6 (.cells #[Pw (P + 3)] 39)
    have hr7 := row_new hr6 b7
    have hvj7 := hvj_new hvj6 b7
    have p7 := (b7.block P (by omega)).trans p6
    have hbg7 := hbg6.new b7
    have z7 : (w6.alloc (.cells #[Pw (P + 3)] 39)).heap.size = P + 5 := by rw [alloc_size, z6]
    have hrd := rd_one1 w6 (Pw (P + 3)) 39
    rw [z6] at hrd
    obtain ⟨w7, hw7⟩ : ∃ w7, w7 = w6.alloc (.cells #[Pw (P + 3)] 39) := ⟨_, rfl⟩
    rw [← hw7] at hr7 hvj7 p7 hbg7 z7 hrd
    have hb57 : Below w5.heap.size w5 w7 := by rw [hw7, hw6]; exact (below1 w5 zJ).trans ((below1 (w5.alloc zJ) _).mono (by simp))
    have e67 : (w5.alloc (.cells (jcs 0 0 (.slice none 0 0)) 38)).alloc (.cells #[Pw (P + 3)] 39) = w7 := by rw [hw7, hw6]
    have HR7 := Lib.hid hr7; have HVJ7 := Lib.hid hvj7; have HP7 := Lib.hid p7; have HBG7 := Lib.hid hbg7; have HZ7 := Lib.hid z7; have HRD := Lib.hid hrd; have HE67 := Lib.hid e67; have HB57 := Lib.hid hb57
    have ez5 : w5.heap.size = P + 3 := HZ5.out
    clear hr5 b6 q6 hr6 hvj6 p6 hbg6 z6 hw6 b7 hr7 hvj7 p7 hbg7 z7 hrd hw7 e67 hsv hown hb57
    go_upto_region 5 with fail
    go_upto_region 6 with (first
      | (go_at_call 5; refine (HNO.out _).mono ?_; rintro e w9 ⟨rfl, rfl⟩; rw [ez5])
      | (at_builtin; go_loud (rw [HE67.out]); refine wpList_append_row lay40 rfl _ _ rfl rfl HR7.out (fun u hu => by simp at hu; rcases hu with rfl | rfl <;> rfl) (Nat.zero_le _) 1 rfl HRD.out rfl (fun u hu => by rw [List.mem_singleton] at hu; rw [hu]; rfl) (by omega) ?_; intro v2 W hr2 ht2 ho2; have HR2 := Lib.hid hr2; have HT2 := Lib.hid ht2; clear hr2 ht2 ho2))
    obtain ⟨Ao, cap, hv2, _, hc1, hc2, hc3, hc4⟩ := HR2.out
    rw [show (2 + 1 : Nat) = 3 from rfl] at hv2
    subst hv2
    have hcap : cap < 9223372036854775808 := by unfold maxLen at hc2; omega
    cases Ao with
    | none => have := hc3 rfl; omega
    | some ad =>
      obtain ⟨g, o, rfl, _, hlt, hl, _⟩ := hc4 ad rfl
      have hnS : ∀ k, k ≠ P + 1 + 1 → ¬ sv.ownBlock = some k := fun k hk e => hk (HOWN.out k e)
      have hpw : W.heap[P]? = some (.cells #[Pw X.wB, Pw Y.wB] 25 (0, 0)) := (HT2.out.block P (by rw [HZ7.out]; omega) (hnS P (by omega))).trans HP7.out
      have hsz := HT2.out.size
      have hPs : P < W.heap.size := by have := HZ7.out; omega
      have hb2W : Below w2.heap.size w2 W := (HB25.out.trans (HB57.out.mono HB25.out.size)).trans ⟨HT2.out.os, HT2.out.tape, HT2.out.output, HT2.out.size, fun k hk => HT2.out.block k (by have := HZ7.out; have := HPE.out; omega) (hnS k (by have := HPE.out; omega))⟩
      have hbw := HBG2.out.new hb2W
      have HAT : Hid (∀ k, k < 3 → ∃ v, W.cell? ⟨g, o + k, none⟩ = some v ∧ VJ W v ∧ g < W.heap.size) := Lib.hid (by
        intro k hk
        have hv1 : VJ W (Pw (P + 1)) := vj_turn HVJ7.out.2.1 HT2.out (fun B e => hnS B (by injection e with e; injection e with e; injection e with e; omega))
        have hv3 : VJ W (Pw (P + 3)) := vj_turn HVJ7.out.2.2 HT2.out (fun B e => hnS B (by injection e with e; injection e with e; injection e with e; omega))
        rcases (show k = 0 ∨ k = 1 ∨ k = 2 by omega) with rfl | rfl | rfl
        · exact ⟨_, hl 0 _ rfl, .inl rfl, hlt⟩
        · exact ⟨_, hl 1 _ rfl, hv1, hlt⟩
        · exact ⟨_, hl 2 _ rfl, hv3, hlt⟩)
      clear hc1 hc2 hc3 hc4 hl hlt hnS hsz hb2W
      have HPC : Hid (∀ w', Below W.heap.size W w' → w'.cell? ⟨P, 0, none⟩ = some (Pw X.wB)) := Lib.hid (fun w' b => (cell_row ((b.block P (by omega)).trans hpw) 0))
      have HPP : Hid (∀ w', Below W.heap.size W w' → w'.cell? ⟨P, 0, none⟩ = some (Pw X.wB) ∧ w'.cell? ⟨P, 1, none⟩ = some (Pw Y.wB)) := Lib.hid (fun w' b => ⟨cell_row ((b.block P (by omega)).trans hpw) 0, cell_row ((b.block P (by omega)).trans hpw) 1⟩)
      have HBL : Hid (∀ w', Below W.heap.size W w' → Below w.heap.size w w') := Lib.hid (fun w' b => hbw.bl.trans (b.mono hbw.bl.size))
      have HALL : Hid (∀ w', Below W.heap.size W w' → Calls Tryz.prog 8 #[.agg #[Pw X.wB, Pw Y.wB]] w' fun e w2 => e = .returned (.bool true) ∧ Below w'.heap.size w' w2) := Lib.hid (fun w' b => pair_all (hbw.new b) (by omega) (by omega))
      clear hpw hbw hPs
      go_upto_region 7 with fail
      go_loopg [6] (3 + 1) (fun q s6 wx => ∃ i : Nat, i ≤ 3 ∧ q = 3 + 1 - i ∧ s6 = .int .i64 (i : Int) ∧ Below W.heap.size W wx)
      case atStart => exact ⟨0, by omega, rfl, rfl, Below.refl _ _⟩
      case round =>
        obtain ⟨i, hi, rfl, rfl, hb⟩ := hrel
        have HB := Lib.hid hb
        by_cases he : i < 3
        · have d7 : decide (i < 3) = true := decide_eq_true he
          have d7' : (i : Int) < 3 := by omega
          obtain ⟨v, hv, hvj, hA⟩ := HAT.out i he
          have HS : Hid (∀ w', Below W.heap.size W w' → Below W.heap.size W w' ∧ w'.cell? ⟨g, o + i, none⟩ = some v ∧ w'.cell? ⟨P, 0, none⟩ = some (Pw X.wB)) := Lib.hid (fun w' b => ⟨b, (b.cell (p := ⟨g, o + i, none⟩) hA).trans hv, (HPC.out _ b)⟩)
          have HOV : Hid (∀ w', Below W.heap.size W w' → Calls Tryz.prog 6 #[v] w' fun e w2 => e = .returned (.bool true) ∧ w' = w2) := Lib.hid (fun w' b => over_vj (hvj.new b))
          have HSV : Hid (∀ w', Below W.heap.size W w' → ∀ x, Calls Tryz.prog 7 #[v, .pointer x] w' fun e w2 => e = .returned (.bool true) ∧ w' = w2) := Lib.hid (fun w' b x => step_vj (hvj.new b) x)
          have HE := Lib.hid he
          clear hb hi hv hvj hA he
          go_upto_region 9 with fail
          refine wp_region_held_drew (S := fun w' => Below W.heap.size W w' ∧ w'.cell? ⟨g, o + i, none⟩ = some v ∧ w'.cell? ⟨P, 0, none⟩ = some (Pw X.wB)) (by kernel_rfl) ?_ (fun hHeld => ?_)
          · exact HS.out _ (HB.out.drew)
          refine tA 0 ⟨some 28, .move (.tmp 5), 40, "law.go:73", #[], none⟩ ?vva0 ?rva0
          (try simp only [Act.put, tC, tD, tE])
          refine tA 1 ⟨some 29, .move (.tmp 6), 3, "law.go:73", #[], none⟩ ?vva1 ?rva1
          (try simp only [Act.put, tC, tD, tE])
          refine tA 2 ⟨some 30, .indexAddr 40 (.tmp 28) (.tmp 29), 0, "law.go:73", #[⟨0, .data⟩, ⟨1, .data⟩], none⟩ ?vva2 ?rva2
          (try simp only [Act.put, tC, tD, tE])
          refine tA 3 ⟨some 31, .load 39 (.tmp 30), 39, "law.go:73", #[⟨2, .data⟩], none⟩ ?vva3 ?rva3
          (try simp only [Act.put, tC, tD, tE])
          refine wpAnyH_ready (rs := [4]) (by kernel_rfl) (by simp) ?_
          refine AllReadyH.cons (o := ⟨some 32, .call ⟨.value (.func 6), #[.tmp 31], #[39]⟩, 4, "law.go:73", #[⟨3, .data⟩], none⟩) rfl (fun Kq hKq => ?_) AllReadyH.nil
          go_simp
          (refine (HOV.out _ hHeld.1).mono ?_; rintro e w5 ⟨rfl, rfl⟩)
          refine hKq.out _ _ ?_ (fun hHeld => ?_)
          · exact hHeld
          clear hKq Kq
          (try simp only [Act.put, tC, tD, tE])
          refine tA 5 ⟨some 33, .unOp .not 4 (.tmp 32), 4, "law.go:73", #[⟨4, .data⟩], none⟩ ?vva5 ?rva5
          (try simp only [Act.put, tC, tD, tE])
          refine tA 6 ⟨some 34, .move (.tmp 33), 4, "law.go:73", #[⟨5, .data⟩, ⟨4, .chain⟩], none⟩ ?vva6 ?rva6
          (try simp only [Act.put, tC, tD, tE])
          refine tA 7 ⟨some 35, .move (.tmp 5), 40, "law.go:73", #[⟨6, .guard⟩], some (6, false)⟩ ?vva7 ?rva7
          (try simp only [Act.put, tC, tD, tE])
          refine tA 8 ⟨some 36, .move (.tmp 6), 3, "law.go:73", #[⟨6, .guard⟩], some (6, false)⟩ ?vva8 ?rva8
          (try simp only [Act.put, tC, tD, tE])
          refine tA 9 ⟨some 37, .indexAddr 40 (.tmp 35) (.tmp 36), 0, "law.go:73", #[⟨7, .data⟩, ⟨8, .data⟩, ⟨6, .guard⟩], some (6, false)⟩ ?vva9 ?rva9
          (try simp only [Act.put, tC, tD, tE])
          refine tA 10 ⟨some 38, .load 39 (.tmp 37), 39, "law.go:73", #[⟨9, .data⟩, ⟨6, .guard⟩], some (6, false)⟩ ?vva10 ?rva10
          (try simp only [Act.put, tC, tD, tE])
          refine tA 11 ⟨some 39, .fieldAddr 25 (.tmp 3) 0, 0, "law.go:73", #[⟨6, .guard⟩], some (6, false)⟩ ?vva11 ?rva11
          (try simp only [Act.put, tC, tD, tE])
          refine tA 12 ⟨some 40, .load 22 (.tmp 39), 22, "law.go:73", #[⟨11, .data⟩, ⟨6, .guard⟩], some (6, false)⟩ ?vva12 ?rva12
          (try simp only [Act.put, tC, tD, tE])
          refine wpAnyH_ready (rs := [13]) (by kernel_rfl) (by simp) ?_
          refine AllReadyH.cons (o := ⟨some 41, .call ⟨.value (.func 7), #[.tmp 38, .tmp 40], #[39, 22]⟩, 4, "law.go:73", #[⟨10, .data⟩, ⟨12, .data⟩, ⟨6, .chain⟩, ⟨6, .guard⟩], some (6, false)⟩) rfl (fun Kq hKq => ?_) AllReadyH.nil
          go_simp
          (refine (HSV.out _ hHeld.1 _).mono ?_; rintro e w5 ⟨rfl, rfl⟩)
          refine hKq.out _ _ ?_ (fun hHeld => ?_)
          · exact hHeld
          clear hKq Kq
          (try simp only [Act.put, tC, tD, tE])
          refine tA 14 ⟨some 42, .unOp .not 4 (.tmp 41), 4, "law.go:73", #[⟨13, .data⟩, ⟨6, .guard⟩], some (6, false)⟩ ?vva14 ?rva14
          (try simp only [Act.put, tC, tD, tE])
          refine tA 15 ⟨some 43, .pick (.tmp 34) (.const (.bool true)) (.tmp 42), 4, "law.go:73", #[⟨6, .data⟩, ⟨14, .data⟩], none⟩ ?vva15 ?rva15
          (try simp only [Act.put, tC, tD, tE])
          refine tA 16 ⟨some 44, .move (.tmp 43), 4, "law.go:73", #[⟨15, .data⟩, ⟨13, .chain⟩], none⟩ ?vva16 ?rva16
          (try simp only [Act.put, tC, tD, tE])
          refine tA 17 ⟨some 45, .move (.tmp 5), 40, "law.go:73", #[⟨16, .guard⟩], some (16, false)⟩ ?vva17 ?rva17
          (try simp only [Act.put, tC, tD, tE])
          refine tA 18 ⟨some 46, .move (.tmp 6), 3, "law.go:73", #[⟨16, .guard⟩], some (16, false)⟩ ?vva18 ?rva18
          (try simp only [Act.put, tC, tD, tE])
          refine tA 19 ⟨some 47, .indexAddr 40 (.tmp 45) (.tmp 46), 0, "law.go:73", #[⟨17, .data⟩, ⟨18, .data⟩, ⟨16, .guard⟩], some (16, false)⟩ ?vva19 ?rva19
          (try simp only [Act.put, tC, tD, tE])
          refine tA 20 ⟨some 48, .load 39 (.tmp 47), 39, "law.go:73", #[⟨19, .data⟩, ⟨16, .guard⟩], some (16, false)⟩ ?vva20 ?rva20
          (try simp only [Act.put, tC, tD, tE])
          refine wpAnyH_ready (rs := [21]) (by kernel_rfl) (by simp) ?_
          refine AllReadyH.cons (o := ⟨some 49, .call ⟨.value (.func 7), #[.tmp 48, .const (.pointer none)], #[39, 22]⟩, 4, "law.go:73", #[⟨20, .data⟩, ⟨16, .chain⟩, ⟨16, .guard⟩], some (16, false)⟩) rfl (fun Kq hKq => ?_) AllReadyH.nil
          go_simp
          (refine (HSV.out _ hHeld.1 _).mono ?_; rintro e w5 ⟨rfl, rfl⟩)
          refine hKq.out _ _ ?_ (fun hHeld => ?_)
          · exact hHeld
          clear hKq Kq
          (try simp only [Act.put, tC, tD, tE])
          refine tA 22 ⟨some 50, .unOp .not 4 (.tmp 49), 4, "law.go:73", #[⟨21, .data⟩, ⟨16, .guard⟩], some (16, false)⟩ ?vva22 ?rva22
          (try simp only [Act.put, tC, tD, tE])
          refine tA 23 ⟨some 51, .pick (.tmp 44) (.const (.bool true)) (.tmp 50), 4, "law.go:73", #[⟨16, .data⟩, ⟨22, .data⟩], none⟩ ?vva23 ?rva23
          (try simp only [Act.put, tC, tD, tE])
          refine wpAnyH_done (by kernel_rfl) ?_ _
          go_wp2_with fail
          go_roundg (3 + 1 - (i + 1))
          case measure => have := HE.out; omega
          case rel => exact ⟨i + 1, HE.out, rfl, congrArg (Value.int .i64) (by have h1 := HE.out; first | omega | (unfold wrap64; omega)), hHeld.1⟩
        · obtain rfl : i = 3 := by omega
          clear hb hi he
          have b1 := HBL.out _ HB.out
          go_upto_region 11 with fail
          go_upto_region 12 with (go_at_call 5; refine (HNJ.out _).mono ?_; rintro e w9 ⟨rfl, hf, hb9⟩; have HF := Lib.hid hf; have HB9 := Lib.hid (HB.out.trans (hb9.mono HB.out.size)); clear hf hb9)
          have HSJ := Lib.hid (step_fj HF.out); have HOJ := Lib.hid (over_fj HF.out)
          have HAL := Lib.hid (HALL.out _ HB9.out)
          have pc := HPP.out _ HB9.out
          have pc0 := pc.1; have pc1 := pc.2
          have HW9 := Lib.hid (HBL.out _ HB9.out)
          clear b1 pc
          go_wp2_with (first
            | (go_at_call 7; refine HSJ.out.mono ?_; rintro e w6 ⟨rfl, rfl⟩)
            | (go_at_call 6; refine HOJ.out.mono ?_; rintro e w6 ⟨rfl, rfl⟩)
            | (go_at_call 8; refine HAL.out.mono ?_; rintro e w7 ⟨rfl, hb7⟩; have HB7 := Lib.hid hb7; have HLW := Lib.hid (HLV.out w7); clear hb7)
            | (go_at_call 9; refine HLW.out.mono ?_; rintro e w8 ⟨rfl, hb8⟩; have HB8 := Lib.hid hb8; clear hb8))
          go_ret
          exact ⟨rfl, HW9.out.trans ((HB7.out.trans (HB8.out.mono HB7.out.size)).mono HW9.out.size)⟩
  · have d0 : decide (t < 0) = false := decide_eq_false h0
    by_cases h1 : 64 ≤ t
    · have d1 : decide (64 ≤ t) = true := decide_eq_true h1
      have hvd : t < 0 ∨ 64 ≤ t := .inr h1
      clear h0 h1
      have HNO := Lib.hid (fun W => newj_no t hvd W)
      have HQ5' : Hid (w5.heap[P + 1 + 1]? = some (.cells #[.pointer none, Pw (P + 1)] 39 (0, 0))) := HQ5
      obtain ⟨sv, hsv⟩ : ∃ sv, sv = Value.slice (some ⟨P + 1 + 1, 0, none⟩) 2 2 := ⟨_, rfl⟩
      have hr5 : Row w5 0 1 sv 2 [.pointer none, Pw (P + 1)] := by
        refine ⟨_, _, hsv, rfl, Nat.le_refl _, by decide, (fun e => by cases e), fun ad e => ?_⟩
        cases e
        refine ⟨P + 1 + 1, 0, rfl, Nat.zero_le _, by have := HZ5.out; omega, fun k u hk => ?_, fun k hk => ?_⟩
        · rw [Nat.zero_add, cell_row HQ5'.out]
          rw [← hk]; rcases k with _ | _ | k <;> rfl
        · rw [Nat.zero_add]
          refine ⟨?_, froz_row HQ5'.out k⟩
          rw [cell_row HQ5'.out]
          rcases (show k = 0 ∨ k = 1 by omega) with rfl | rfl <;> rfl
      rw [← hsv]
      have hown : ∀ g, sv.ownBlock = some g → g = P + 1 + 1 := fun g e => by rw [hsv] at e; injection e with e; exact e.symm
      have HOWN := Lib.hid hown
      have b6 := below1 w5 zJ
      have q6 : (w5.alloc zJ).heap[P + 3]? = some (.cells (jcs 0 0 (.slice none 0 0)) 38 (0, 0)) := by rw [← HZ5.out]; exact heap_alloc_new _ _
      have hr6 := row_new hr5 b6
      have hvj6 := hvj_all HVJ.out b6 q6
      have p6 := (b6.block P (by have := HZ5.out; omega)).trans HP5.out
      have hbg6 := HBG5.out.new b6
      have z6 : (w5.alloc zJ).heap.size = P + 4 := by rw [alloc_size, HZ5.out]
      obtain ⟨w6, hw6⟩ : ∃ w6, w6 = w5.alloc zJ := ⟨_, rfl⟩
      rw [← hw6] at hr6 hvj6 p6 hbg6 z6
      have b7 := below1 w6 (.cells #[Pw (P + 3)] 39)
      have hr7 := row_new hr6 b7
      have hvj7 := hvj_new hvj6 b7
      have p7 := (b7.block P (by omega)).trans p6
      have hbg7 := hbg6.new b7
      have z7 : (w6.alloc (.cells #[Pw (P + 3)] 39)).heap.size = P + 5 := by rw [alloc_size, z6]
      have hrd := rd_one1 w6 (Pw (P + 3)) 39
      rw [z6] at hrd
      obtain ⟨w7, hw7⟩ : ∃ w7, w7 = w6.alloc (.cells #[Pw (P + 3)] 39) := ⟨_, rfl⟩
      rw [← hw7] at hr7 hvj7 p7 hbg7 z7 hrd
      have hb57 : Below w5.heap.size w5 w7 := by rw [hw7, hw6]; exact (below1 w5 zJ).trans ((below1 (w5.alloc zJ) _).mono (by simp))
      have e67 : (w5.alloc (.cells (jcs 0 0 (.slice none 0 0)) 38)).alloc (.cells #[Pw (P + 3)] 39) = w7 := by rw [hw7, hw6]
      have HR7 := Lib.hid hr7; have HVJ7 := Lib.hid hvj7; have HP7 := Lib.hid p7; have HBG7 := Lib.hid hbg7; have HZ7 := Lib.hid z7; have HRD := Lib.hid hrd; have HE67 := Lib.hid e67; have HB57 := Lib.hid hb57
      have ez5 : w5.heap.size = P + 3 := HZ5.out
      clear hr5 b6 q6 hr6 hvj6 p6 hbg6 z6 hw6 b7 hr7 hvj7 p7 hbg7 z7 hrd hw7 e67 hsv hown hb57
      go_upto_region 5 with fail
      go_upto_region 6 with (first
        | (go_at_call 5; refine (HNO.out _).mono ?_; rintro e w9 ⟨rfl, rfl⟩; rw [ez5])
        | (at_builtin; go_loud (rw [HE67.out]); refine wpList_append_row lay40 rfl _ _ rfl rfl HR7.out (fun u hu => by simp at hu; rcases hu with rfl | rfl <;> rfl) (Nat.zero_le _) 1 rfl HRD.out rfl (fun u hu => by rw [List.mem_singleton] at hu; rw [hu]; rfl) (by omega) ?_; intro v2 W hr2 ht2 ho2; have HR2 := Lib.hid hr2; have HT2 := Lib.hid ht2; clear hr2 ht2 ho2))
      obtain ⟨Ao, cap, hv2, _, hc1, hc2, hc3, hc4⟩ := HR2.out
      rw [show (2 + 1 : Nat) = 3 from rfl] at hv2
      subst hv2
      have hcap : cap < 9223372036854775808 := by unfold maxLen at hc2; omega
      cases Ao with
      | none => have := hc3 rfl; omega
      | some ad =>
        obtain ⟨g, o, rfl, _, hlt, hl, _⟩ := hc4 ad rfl
        have hnS : ∀ k, k ≠ P + 1 + 1 → ¬ sv.ownBlock = some k := fun k hk e => hk (HOWN.out k e)
        have hpw : W.heap[P]? = some (.cells #[Pw X.wB, Pw Y.wB] 25 (0, 0)) := (HT2.out.block P (by rw [HZ7.out]; omega) (hnS P (by omega))).trans HP7.out
        have hsz := HT2.out.size
        have hPs : P < W.heap.size := by have := HZ7.out; omega
        have hb2W : Below w2.heap.size w2 W := (HB25.out.trans (HB57.out.mono HB25.out.size)).trans ⟨HT2.out.os, HT2.out.tape, HT2.out.output, HT2.out.size, fun k hk => HT2.out.block k (by have := HZ7.out; have := HPE.out; omega) (hnS k (by have := HPE.out; omega))⟩
        have hbw := HBG2.out.new hb2W
        have HAT : Hid (∀ k, k < 3 → ∃ v, W.cell? ⟨g, o + k, none⟩ = some v ∧ VJ W v ∧ g < W.heap.size) := Lib.hid (by
          intro k hk
          have hv1 : VJ W (Pw (P + 1)) := vj_turn HVJ7.out.2.1 HT2.out (fun B e => hnS B (by injection e with e; injection e with e; injection e with e; omega))
          have hv3 : VJ W (Pw (P + 3)) := vj_turn HVJ7.out.2.2 HT2.out (fun B e => hnS B (by injection e with e; injection e with e; injection e with e; omega))
          rcases (show k = 0 ∨ k = 1 ∨ k = 2 by omega) with rfl | rfl | rfl
          · exact ⟨_, hl 0 _ rfl, .inl rfl, hlt⟩
          · exact ⟨_, hl 1 _ rfl, hv1, hlt⟩
          · exact ⟨_, hl 2 _ rfl, hv3, hlt⟩)
        clear hc1 hc2 hc3 hc4 hl hlt hnS hsz hb2W
        have HPC : Hid (∀ w', Below W.heap.size W w' → w'.cell? ⟨P, 0, none⟩ = some (Pw X.wB)) := Lib.hid (fun w' b => (cell_row ((b.block P (by omega)).trans hpw) 0))
        have HPP : Hid (∀ w', Below W.heap.size W w' → w'.cell? ⟨P, 0, none⟩ = some (Pw X.wB) ∧ w'.cell? ⟨P, 1, none⟩ = some (Pw Y.wB)) := Lib.hid (fun w' b => ⟨cell_row ((b.block P (by omega)).trans hpw) 0, cell_row ((b.block P (by omega)).trans hpw) 1⟩)
        have HBL : Hid (∀ w', Below W.heap.size W w' → Below w.heap.size w w') := Lib.hid (fun w' b => hbw.bl.trans (b.mono hbw.bl.size))
        have HALL : Hid (∀ w', Below W.heap.size W w' → Calls Tryz.prog 8 #[.agg #[Pw X.wB, Pw Y.wB]] w' fun e w2 => e = .returned (.bool true) ∧ Below w'.heap.size w' w2) := Lib.hid (fun w' b => pair_all (hbw.new b) (by omega) (by omega))
        clear hpw hbw hPs
        go_upto_region 7 with fail
        go_loopg [6] (3 + 1) (fun q s6 wx => ∃ i : Nat, i ≤ 3 ∧ q = 3 + 1 - i ∧ s6 = .int .i64 (i : Int) ∧ Below W.heap.size W wx)
        case atStart => exact ⟨0, by omega, rfl, rfl, Below.refl _ _⟩
        case round =>
          obtain ⟨i, hi, rfl, rfl, hb⟩ := hrel
          have HB := Lib.hid hb
          by_cases he : i < 3
          · have d7 : decide (i < 3) = true := decide_eq_true he
            have d7' : (i : Int) < 3 := by omega
            obtain ⟨v, hv, hvj, hA⟩ := HAT.out i he
            have HS : Hid (∀ w', Below W.heap.size W w' → Below W.heap.size W w' ∧ w'.cell? ⟨g, o + i, none⟩ = some v ∧ w'.cell? ⟨P, 0, none⟩ = some (Pw X.wB)) := Lib.hid (fun w' b => ⟨b, (b.cell (p := ⟨g, o + i, none⟩) hA).trans hv, (HPC.out _ b)⟩)
            have HOV : Hid (∀ w', Below W.heap.size W w' → Calls Tryz.prog 6 #[v] w' fun e w2 => e = .returned (.bool true) ∧ w' = w2) := Lib.hid (fun w' b => over_vj (hvj.new b))
            have HSV : Hid (∀ w', Below W.heap.size W w' → ∀ x, Calls Tryz.prog 7 #[v, .pointer x] w' fun e w2 => e = .returned (.bool true) ∧ w' = w2) := Lib.hid (fun w' b x => step_vj (hvj.new b) x)
            have HE := Lib.hid he
            clear hb hi hv hvj hA he
            go_upto_region 9 with fail
            refine wp_region_held_drew (S := fun w' => Below W.heap.size W w' ∧ w'.cell? ⟨g, o + i, none⟩ = some v ∧ w'.cell? ⟨P, 0, none⟩ = some (Pw X.wB)) (by kernel_rfl) ?_ (fun hHeld => ?_)
            · exact HS.out _ (HB.out.drew)
            refine tA 0 ⟨some 28, .move (.tmp 5), 40, "law.go:73", #[], none⟩ ?vvb0 ?rvb0
            (try simp only [Act.put, tC, tD, tE])
            refine tA 1 ⟨some 29, .move (.tmp 6), 3, "law.go:73", #[], none⟩ ?vvb1 ?rvb1
            (try simp only [Act.put, tC, tD, tE])
            refine tA 2 ⟨some 30, .indexAddr 40 (.tmp 28) (.tmp 29), 0, "law.go:73", #[⟨0, .data⟩, ⟨1, .data⟩], none⟩ ?vvb2 ?rvb2
            (try simp only [Act.put, tC, tD, tE])
            refine tA 3 ⟨some 31, .load 39 (.tmp 30), 39, "law.go:73", #[⟨2, .data⟩], none⟩ ?vvb3 ?rvb3
            (try simp only [Act.put, tC, tD, tE])
            refine wpAnyH_ready (rs := [4]) (by kernel_rfl) (by simp) ?_
            refine AllReadyH.cons (o := ⟨some 32, .call ⟨.value (.func 6), #[.tmp 31], #[39]⟩, 4, "law.go:73", #[⟨3, .data⟩], none⟩) rfl (fun Kq hKq => ?_) AllReadyH.nil
            go_simp
            (refine (HOV.out _ hHeld.1).mono ?_; rintro e w5 ⟨rfl, rfl⟩)
            refine hKq.out _ _ ?_ (fun hHeld => ?_)
            · exact hHeld
            clear hKq Kq
            (try simp only [Act.put, tC, tD, tE])
            refine tA 5 ⟨some 33, .unOp .not 4 (.tmp 32), 4, "law.go:73", #[⟨4, .data⟩], none⟩ ?vvb5 ?rvb5
            (try simp only [Act.put, tC, tD, tE])
            refine tA 6 ⟨some 34, .move (.tmp 33), 4, "law.go:73", #[⟨5, .data⟩, ⟨4, .chain⟩], none⟩ ?vvb6 ?rvb6
            (try simp only [Act.put, tC, tD, tE])
            refine tA 7 ⟨some 35, .move (.tmp 5), 40, "law.go:73", #[⟨6, .guard⟩], some (6, false)⟩ ?vvb7 ?rvb7
            (try simp only [Act.put, tC, tD, tE])
            refine tA 8 ⟨some 36, .move (.tmp 6), 3, "law.go:73", #[⟨6, .guard⟩], some (6, false)⟩ ?vvb8 ?rvb8
            (try simp only [Act.put, tC, tD, tE])
            refine tA 9 ⟨some 37, .indexAddr 40 (.tmp 35) (.tmp 36), 0, "law.go:73", #[⟨7, .data⟩, ⟨8, .data⟩, ⟨6, .guard⟩], some (6, false)⟩ ?vvb9 ?rvb9
            (try simp only [Act.put, tC, tD, tE])
            refine tA 10 ⟨some 38, .load 39 (.tmp 37), 39, "law.go:73", #[⟨9, .data⟩, ⟨6, .guard⟩], some (6, false)⟩ ?vvb10 ?rvb10
            (try simp only [Act.put, tC, tD, tE])
            refine tA 11 ⟨some 39, .fieldAddr 25 (.tmp 3) 0, 0, "law.go:73", #[⟨6, .guard⟩], some (6, false)⟩ ?vvb11 ?rvb11
            (try simp only [Act.put, tC, tD, tE])
            refine tA 12 ⟨some 40, .load 22 (.tmp 39), 22, "law.go:73", #[⟨11, .data⟩, ⟨6, .guard⟩], some (6, false)⟩ ?vvb12 ?rvb12
            (try simp only [Act.put, tC, tD, tE])
            refine wpAnyH_ready (rs := [13]) (by kernel_rfl) (by simp) ?_
            refine AllReadyH.cons (o := ⟨some 41, .call ⟨.value (.func 7), #[.tmp 38, .tmp 40], #[39, 22]⟩, 4, "law.go:73", #[⟨10, .data⟩, ⟨12, .data⟩, ⟨6, .chain⟩, ⟨6, .guard⟩], some (6, false)⟩) rfl (fun Kq hKq => ?_) AllReadyH.nil
            go_simp
            (refine (HSV.out _ hHeld.1 _).mono ?_; rintro e w5 ⟨rfl, rfl⟩)
            refine hKq.out _ _ ?_ (fun hHeld => ?_)
            · exact hHeld
            clear hKq Kq
            (try simp only [Act.put, tC, tD, tE])
            refine tA 14 ⟨some 42, .unOp .not 4 (.tmp 41), 4, "law.go:73", #[⟨13, .data⟩, ⟨6, .guard⟩], some (6, false)⟩ ?vvb14 ?rvb14
            (try simp only [Act.put, tC, tD, tE])
            refine tA 15 ⟨some 43, .pick (.tmp 34) (.const (.bool true)) (.tmp 42), 4, "law.go:73", #[⟨6, .data⟩, ⟨14, .data⟩], none⟩ ?vvb15 ?rvb15
            (try simp only [Act.put, tC, tD, tE])
            refine tA 16 ⟨some 44, .move (.tmp 43), 4, "law.go:73", #[⟨15, .data⟩, ⟨13, .chain⟩], none⟩ ?vvb16 ?rvb16
            (try simp only [Act.put, tC, tD, tE])
            refine tA 17 ⟨some 45, .move (.tmp 5), 40, "law.go:73", #[⟨16, .guard⟩], some (16, false)⟩ ?vvb17 ?rvb17
            (try simp only [Act.put, tC, tD, tE])
            refine tA 18 ⟨some 46, .move (.tmp 6), 3, "law.go:73", #[⟨16, .guard⟩], some (16, false)⟩ ?vvb18 ?rvb18
            (try simp only [Act.put, tC, tD, tE])
            refine tA 19 ⟨some 47, .indexAddr 40 (.tmp 45) (.tmp 46), 0, "law.go:73", #[⟨17, .data⟩, ⟨18, .data⟩, ⟨16, .guard⟩], some (16, false)⟩ ?vvb19 ?rvb19
            (try simp only [Act.put, tC, tD, tE])
            refine tA 20 ⟨some 48, .load 39 (.tmp 47), 39, "law.go:73", #[⟨19, .data⟩, ⟨16, .guard⟩], some (16, false)⟩ ?vvb20 ?rvb20
            (try simp only [Act.put, tC, tD, tE])
            refine wpAnyH_ready (rs := [21]) (by kernel_rfl) (by simp) ?_
            refine AllReadyH.cons (o := ⟨some 49, .call ⟨.value (.func 7), #[.tmp 48, .const (.pointer none)], #[39, 22]⟩, 4, "law.go:73", #[⟨20, .data⟩, ⟨16, .chain⟩, ⟨16, .guard⟩], some (16, false)⟩) rfl (fun Kq hKq => ?_) AllReadyH.nil
            go_simp
            (refine (HSV.out _ hHeld.1 _).mono ?_; rintro e w5 ⟨rfl, rfl⟩)
            refine hKq.out _ _ ?_ (fun hHeld => ?_)
            · exact hHeld
            clear hKq Kq
            (try simp only [Act.put, tC, tD, tE])
            refine tA 22 ⟨some 50, .unOp .not 4 (.tmp 49), 4, "law.go:73", #[⟨21, .data⟩, ⟨16, .guard⟩], some (16, false)⟩ ?vvb22 ?rvb22
            (try simp only [Act.put, tC, tD, tE])
            refine tA 23 ⟨some 51, .pick (.tmp 44) (.const (.bool true)) (.tmp 50), 4, "law.go:73", #[⟨16, .data⟩, ⟨22, .data⟩], none⟩ ?vvb23 ?rvb23
            (try simp only [Act.put, tC, tD, tE])
            refine wpAnyH_done (by kernel_rfl) ?_ _
            go_wp2_with fail
            go_roundg (3 + 1 - (i + 1))
            case measure => have := HE.out; omega
            case rel => exact ⟨i + 1, HE.out, rfl, congrArg (Value.int .i64) (by have h1 := HE.out; first | omega | (unfold wrap64; omega)), hHeld.1⟩
          · obtain rfl : i = 3 := by omega
            clear hb hi he
            have b1 := HBL.out _ HB.out
            go_upto_region 11 with fail
            go_upto_region 12 with (go_at_call 5; refine (HNJ.out _).mono ?_; rintro e w9 ⟨rfl, hf, hb9⟩; have HF := Lib.hid hf; have HB9 := Lib.hid (HB.out.trans (hb9.mono HB.out.size)); clear hf hb9)
            have HSJ := Lib.hid (step_fj HF.out); have HOJ := Lib.hid (over_fj HF.out)
            have HAL := Lib.hid (HALL.out _ HB9.out)
            have pc := HPP.out _ HB9.out
            have pc0 := pc.1; have pc1 := pc.2
            have HW9 := Lib.hid (HBL.out _ HB9.out)
            clear b1 pc
            go_wp2_with (first
              | (go_at_call 7; refine HSJ.out.mono ?_; rintro e w6 ⟨rfl, rfl⟩)
              | (go_at_call 6; refine HOJ.out.mono ?_; rintro e w6 ⟨rfl, rfl⟩)
              | (go_at_call 8; refine HAL.out.mono ?_; rintro e w7 ⟨rfl, hb7⟩; have HB7 := Lib.hid hb7; have HLW := Lib.hid (HLV.out w7); clear hb7)
              | (go_at_call 9; refine HLW.out.mono ?_; rintro e w8 ⟨rfl, hb8⟩; have HB8 := Lib.hid hb8; clear hb8))
            go_ret
            exact ⟨rfl, HW9.out.trans ((HB7.out.trans (HB8.out.mono HB7.out.size)).mono HW9.out.size)⟩
    · have d1 : decide (64 ≤ t) = false := decide_eq_false h1
      clear h0 h1
      obtain ⟨W, hWe⟩ : ∃ W, W = w5 := ⟨_, rfl⟩
      have hpw : W.heap[P]? = some (.cells #[Pw X.wB, Pw Y.wB] 25 (0, 0)) := by rw [hWe]; exact HP5.out
      have hbw := HBG5.out
      rw [← hWe] at hbw ⊢
      have hPs : P < W.heap.size := by rw [hWe, HZ5.out]; omega
      have HAT : Hid (∀ k, k < 2 → ∃ v, W.cell? ⟨P + 2, k, none⟩ = some v ∧ VJ W v ∧ P + 2 < W.heap.size) := Lib.hid (by
        rw [hWe]
        intro k hk
        have hl : P + 2 < w5.heap.size := by rw [HZ5.out]; omega
        rcases (show k = 0 ∨ k = 1 by omega) with rfl | rfl
        · exact ⟨.pointer none, by rw [cell_row HQ5.out]; rfl, HVJ.out.1, hl⟩
        · exact ⟨Pw (P + 1), by rw [cell_row HQ5.out]; rfl, HVJ.out.2, hl⟩)
      clear hWe
      have HPC : Hid (∀ w', Below W.heap.size W w' → w'.cell? ⟨P, 0, none⟩ = some (Pw X.wB)) := Lib.hid (fun w' b => (cell_row ((b.block P (by omega)).trans hpw) 0))
      have HPP : Hid (∀ w', Below W.heap.size W w' → w'.cell? ⟨P, 0, none⟩ = some (Pw X.wB) ∧ w'.cell? ⟨P, 1, none⟩ = some (Pw Y.wB)) := Lib.hid (fun w' b => ⟨cell_row ((b.block P (by omega)).trans hpw) 0, cell_row ((b.block P (by omega)).trans hpw) 1⟩)
      have HBL : Hid (∀ w', Below W.heap.size W w' → Below w.heap.size w w') := Lib.hid (fun w' b => hbw.bl.trans (b.mono hbw.bl.size))
      have HALL : Hid (∀ w', Below W.heap.size W w' → Calls Tryz.prog 8 #[.agg #[Pw X.wB, Pw Y.wB]] w' fun e w2 => e = .returned (.bool true) ∧ Below w'.heap.size w' w2) := Lib.hid (fun w' b => pair_all (hbw.new b) (by omega) (by omega))
      clear hpw hbw hPs
      go_upto_region 7 with fail
      go_loopg [6] (2 + 1) (fun q s6 wx => ∃ i : Nat, i ≤ 2 ∧ q = 2 + 1 - i ∧ s6 = .int .i64 (i : Int) ∧ Below W.heap.size W wx)
      case atStart => exact ⟨0, by omega, rfl, rfl, Below.refl _ _⟩
      case round =>
        obtain ⟨i, hi, rfl, rfl, hb⟩ := hrel
        have HB := Lib.hid hb
        by_cases he : i < 2
        · have d7 : decide (i < 2) = true := decide_eq_true he
          have d7' : (i : Int) < 2 := by omega
          obtain ⟨v, hv, hvj, hA⟩ := HAT.out i he
          have HS : Hid (∀ w', Below W.heap.size W w' → Below W.heap.size W w' ∧ w'.cell? ⟨P + 2, i, none⟩ = some v ∧ w'.cell? ⟨P, 0, none⟩ = some (Pw X.wB)) := Lib.hid (fun w' b => ⟨b, (b.cell (p := ⟨P + 2, i, none⟩) hA).trans hv, (HPC.out _ b)⟩)
          have HOV : Hid (∀ w', Below W.heap.size W w' → Calls Tryz.prog 6 #[v] w' fun e w2 => e = .returned (.bool true) ∧ w' = w2) := Lib.hid (fun w' b => over_vj (hvj.new b))
          have HSV : Hid (∀ w', Below W.heap.size W w' → ∀ x, Calls Tryz.prog 7 #[v, .pointer x] w' fun e w2 => e = .returned (.bool true) ∧ w' = w2) := Lib.hid (fun w' b x => step_vj (hvj.new b) x)
          have HE := Lib.hid he
          clear hb hi hv hvj hA he
          go_upto_region 9 with fail
          refine wp_region_held_drew (S := fun w' => Below W.heap.size W w' ∧ w'.cell? ⟨P + 2, i, none⟩ = some v ∧ w'.cell? ⟨P, 0, none⟩ = some (Pw X.wB)) (by kernel_rfl) ?_ (fun hHeld => ?_)
          · exact HS.out _ (HB.out.drew)
          refine tA 0 ⟨some 28, .move (.tmp 5), 40, "law.go:73", #[], none⟩ ?vv20 ?rv20
          (try simp only [Act.put, tC, tD, tE])
          refine tA 1 ⟨some 29, .move (.tmp 6), 3, "law.go:73", #[], none⟩ ?vv21 ?rv21
          (try simp only [Act.put, tC, tD, tE])
          refine tA 2 ⟨some 30, .indexAddr 40 (.tmp 28) (.tmp 29), 0, "law.go:73", #[⟨0, .data⟩, ⟨1, .data⟩], none⟩ ?vv22 ?rv22
          (try simp only [Act.put, tC, tD, tE])
          refine tA 3 ⟨some 31, .load 39 (.tmp 30), 39, "law.go:73", #[⟨2, .data⟩], none⟩ ?vv23 ?rv23
          (try simp only [Act.put, tC, tD, tE])
          refine wpAnyH_ready (rs := [4]) (by kernel_rfl) (by simp) ?_
          refine AllReadyH.cons (o := ⟨some 32, .call ⟨.value (.func 6), #[.tmp 31], #[39]⟩, 4, "law.go:73", #[⟨3, .data⟩], none⟩) rfl (fun Kq hKq => ?_) AllReadyH.nil
          go_simp
          (refine (HOV.out _ hHeld.1).mono ?_; rintro e w5 ⟨rfl, rfl⟩)
          refine hKq.out _ _ ?_ (fun hHeld => ?_)
          · exact hHeld
          clear hKq Kq
          (try simp only [Act.put, tC, tD, tE])
          refine tA 5 ⟨some 33, .unOp .not 4 (.tmp 32), 4, "law.go:73", #[⟨4, .data⟩], none⟩ ?vv25 ?rv25
          (try simp only [Act.put, tC, tD, tE])
          refine tA 6 ⟨some 34, .move (.tmp 33), 4, "law.go:73", #[⟨5, .data⟩, ⟨4, .chain⟩], none⟩ ?vv26 ?rv26
          (try simp only [Act.put, tC, tD, tE])
          refine tA 7 ⟨some 35, .move (.tmp 5), 40, "law.go:73", #[⟨6, .guard⟩], some (6, false)⟩ ?vv27 ?rv27
          (try simp only [Act.put, tC, tD, tE])
          refine tA 8 ⟨some 36, .move (.tmp 6), 3, "law.go:73", #[⟨6, .guard⟩], some (6, false)⟩ ?vv28 ?rv28
          (try simp only [Act.put, tC, tD, tE])
          refine tA 9 ⟨some 37, .indexAddr 40 (.tmp 35) (.tmp 36), 0, "law.go:73", #[⟨7, .data⟩, ⟨8, .data⟩, ⟨6, .guard⟩], some (6, false)⟩ ?vv29 ?rv29
          (try simp only [Act.put, tC, tD, tE])
          refine tA 10 ⟨some 38, .load 39 (.tmp 37), 39, "law.go:73", #[⟨9, .data⟩, ⟨6, .guard⟩], some (6, false)⟩ ?vv210 ?rv210
          (try simp only [Act.put, tC, tD, tE])
          refine tA 11 ⟨some 39, .fieldAddr 25 (.tmp 3) 0, 0, "law.go:73", #[⟨6, .guard⟩], some (6, false)⟩ ?vv211 ?rv211
          (try simp only [Act.put, tC, tD, tE])
          refine tA 12 ⟨some 40, .load 22 (.tmp 39), 22, "law.go:73", #[⟨11, .data⟩, ⟨6, .guard⟩], some (6, false)⟩ ?vv212 ?rv212
          (try simp only [Act.put, tC, tD, tE])
          refine wpAnyH_ready (rs := [13]) (by kernel_rfl) (by simp) ?_
          refine AllReadyH.cons (o := ⟨some 41, .call ⟨.value (.func 7), #[.tmp 38, .tmp 40], #[39, 22]⟩, 4, "law.go:73", #[⟨10, .data⟩, ⟨12, .data⟩, ⟨6, .chain⟩, ⟨6, .guard⟩], some (6, false)⟩) rfl (fun Kq hKq => ?_) AllReadyH.nil
          go_simp
          (refine (HSV.out _ hHeld.1 _).mono ?_; rintro e w5 ⟨rfl, rfl⟩)
          refine hKq.out _ _ ?_ (fun hHeld => ?_)
          · exact hHeld
          clear hKq Kq
          (try simp only [Act.put, tC, tD, tE])
          refine tA 14 ⟨some 42, .unOp .not 4 (.tmp 41), 4, "law.go:73", #[⟨13, .data⟩, ⟨6, .guard⟩], some (6, false)⟩ ?vv214 ?rv214
          (try simp only [Act.put, tC, tD, tE])
          refine tA 15 ⟨some 43, .pick (.tmp 34) (.const (.bool true)) (.tmp 42), 4, "law.go:73", #[⟨6, .data⟩, ⟨14, .data⟩], none⟩ ?vv215 ?rv215
          (try simp only [Act.put, tC, tD, tE])
          refine tA 16 ⟨some 44, .move (.tmp 43), 4, "law.go:73", #[⟨15, .data⟩, ⟨13, .chain⟩], none⟩ ?vv216 ?rv216
          (try simp only [Act.put, tC, tD, tE])
          refine tA 17 ⟨some 45, .move (.tmp 5), 40, "law.go:73", #[⟨16, .guard⟩], some (16, false)⟩ ?vv217 ?rv217
          (try simp only [Act.put, tC, tD, tE])
          refine tA 18 ⟨some 46, .move (.tmp 6), 3, "law.go:73", #[⟨16, .guard⟩], some (16, false)⟩ ?vv218 ?rv218
          (try simp only [Act.put, tC, tD, tE])
          refine tA 19 ⟨some 47, .indexAddr 40 (.tmp 45) (.tmp 46), 0, "law.go:73", #[⟨17, .data⟩, ⟨18, .data⟩, ⟨16, .guard⟩], some (16, false)⟩ ?vv219 ?rv219
          (try simp only [Act.put, tC, tD, tE])
          refine tA 20 ⟨some 48, .load 39 (.tmp 47), 39, "law.go:73", #[⟨19, .data⟩, ⟨16, .guard⟩], some (16, false)⟩ ?vv220 ?rv220
          (try simp only [Act.put, tC, tD, tE])
          refine wpAnyH_ready (rs := [21]) (by kernel_rfl) (by simp) ?_
          refine AllReadyH.cons (o := ⟨some 49, .call ⟨.value (.func 7), #[.tmp 48, .const (.pointer none)], #[39, 22]⟩, 4, "law.go:73", #[⟨20, .data⟩, ⟨16, .chain⟩, ⟨16, .guard⟩], some (16, false)⟩) rfl (fun Kq hKq => ?_) AllReadyH.nil
          go_simp
          (refine (HSV.out _ hHeld.1 _).mono ?_; rintro e w5 ⟨rfl, rfl⟩)
          refine hKq.out _ _ ?_ (fun hHeld => ?_)
          · exact hHeld
          clear hKq Kq
          (try simp only [Act.put, tC, tD, tE])
          refine tA 22 ⟨some 50, .unOp .not 4 (.tmp 49), 4, "law.go:73", #[⟨21, .data⟩, ⟨16, .guard⟩], some (16, false)⟩ ?vv222 ?rv222
          (try simp only [Act.put, tC, tD, tE])
          refine tA 23 ⟨some 51, .pick (.tmp 44) (.const (.bool true)) (.tmp 50), 4, "law.go:73", #[⟨16, .data⟩, ⟨22, .data⟩], none⟩ ?vv223 ?rv223
          (try simp only [Act.put, tC, tD, tE])
          refine wpAnyH_done (by kernel_rfl) ?_ _
          go_wp2_with fail
          go_roundg (2 + 1 - (i + 1))
          case measure => have := HE.out; omega
          case rel => exact ⟨i + 1, HE.out, rfl, congrArg (Value.int .i64) (by have h1 := HE.out; first | omega | (unfold wrap64; omega)), hHeld.1⟩
        · obtain rfl : i = 2 := by omega
          clear hb hi he
          have b1 := HBL.out _ HB.out
          go_upto_region 11 with fail
          go_upto_region 12 with (go_at_call 5; refine (HNJ.out _).mono ?_; rintro e w9 ⟨rfl, hf, hb9⟩; have HF := Lib.hid hf; have HB9 := Lib.hid (HB.out.trans (hb9.mono HB.out.size)); clear hf hb9)
          have HSJ := Lib.hid (step_fj HF.out); have HOJ := Lib.hid (over_fj HF.out)
          have HAL := Lib.hid (HALL.out _ HB9.out)
          have pc := HPP.out _ HB9.out
          have pc0 := pc.1; have pc1 := pc.2
          have HW9 := Lib.hid (HBL.out _ HB9.out)
          clear b1 pc
          go_wp2_with (first
            | (go_at_call 7; refine HSJ.out.mono ?_; rintro e w6 ⟨rfl, rfl⟩)
            | (go_at_call 6; refine HOJ.out.mono ?_; rintro e w6 ⟨rfl, rfl⟩)
            | (go_at_call 8; refine HAL.out.mono ?_; rintro e w7 ⟨rfl, hb7⟩; have HB7 := Lib.hid hb7; have HLW := Lib.hid (HLV.out w7); clear hb7)
            | (go_at_call 9; refine HLW.out.mono ?_; rintro e w8 ⟨rfl, hb8⟩; have HB8 := Lib.hid hb8; clear hb8))
          go_ret
          exact ⟨rfl, HW9.out.trans ((HB7.out.trans (HB8.out.mono HB7.out.size)).mono HW9.out.size)⟩
end Go.Proofs.YtdodloannlfnlaaGreat.S17
