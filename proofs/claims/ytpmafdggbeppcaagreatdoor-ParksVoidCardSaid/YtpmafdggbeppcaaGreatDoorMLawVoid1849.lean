/- Texts of this seat, one behind the other. -/
import Derived.Test.YtpmafdggbeppcaaGreatDoorMLawVoid184
import Derived.Test.YtpmafdggbeppcaaGreatDoorMLawVoid1842
import Derived.Test.YtpmafdggbeppcaaGreatDoorMLawVoid1844
import Derived.Test.YtpmafdggbeppcaaGreatDoorMLawVoid1846
import Derived.Test.YtpmafdggbeppcaaGreatDoorMLawVoid1848
import Derived.LoopTactic
import Derived.Deep.LoopGhost
import Derived.Deep.RegionLaw
set_option linter.unusedVariables false
set_option linter.unusedSimpArgs false
set_option linter.unusedVariables false
set_option linter.unusedSimpArgs false
namespace Go.Proofs.YtpmafdggbeppcaaGreatDoor.S18
set_option maxRecDepth 100000
set_option maxHeartbeats 16000000
open Go.Proofs.YtpmafdggbeppcaaGreatDoor Go.Proofs.YtpmafdggbeppcaaGreatDoor.S11 Go.Proofs.YtpmafdggbeppcaaGreatDoor.S12 Go.Proofs.YtpmafdggbeppcaaGreatDoor.S13 Go.Proofs.YtpmafdggbeppcaaGreatDoor.S14 Go.Proofs.YtpmafdggbeppcaaGreatDoor.S15 Go.Proofs.YtpmafdggbeppcaaGreatDoor.S16
open Go.RowKit
abbrev zP : Obj := .cells voidC 50
theorem row_new {w w' : World} {s : Value} {n : Nat} {cs : List Value} (h : Row w 0 1 s n cs) (b : Below w.heap.size w w') : Row w' 0 1 s n cs := Row.keep (S := fun _ => False) h ⟨b.os, b.tape, b.output, b.size, fun k hk _ => b.block k hk⟩ (fun _ _ e => e)
theorem vp_turn {S : Nat → Prop} {w w' : World} {v : Value} (h : VP w v) (t : Turns S w w') (hn : ∀ B, v = Pw B → ¬ S B) : VP w' v := by
  rcases h with h | ⟨B, h, e⟩
  · exact .inl h
  · exact .inr ⟨B, h, (t.block B (heap_lt e) (hn B h)).trans e⟩
theorem law_void (t : Int) (k : Nat) (hk : k < 4294967296) (w : World) (hTb : Tab w) : Calls Tryz.prog 3 #[.int .i64 t, .int .u32 (k : Int)] w fun e w' => e = .returned (.bool true) ∧ Below w.heap.size w w' := by
  have HBG := Lib.hid (begin_void w)
  have HTB := Lib.hid hTb
  have HNJ := Lib.hid (fun W => new_b (t := 1) (k := k) (z := 1) (at_ := 0) (on := false) (v := .nilIface) (.inr ⟨rfl, rfl⟩) (by omega) hk W)
  clear hk hTb
  go_enter Tryz.func3, Tryz.ntmps3
  go_upto_region 4 with (go_at_call 7; refine HBG.out.mono ?_; rintro e w2 ⟨M, X, Y, rfl, hbg⟩)
  obtain ⟨w3, hw3⟩ : ∃ w3, w3 = w2.alloc (.cells #[Pw X.wB, Pw Y.wB] 27) := ⟨_, rfl⟩
  obtain ⟨w4, hw4⟩ : ∃ w4, w4 = w3.alloc zP := ⟨_, rfl⟩
  obtain ⟨P, hP⟩ : ∃ P, P = w2.heap.size := ⟨_, rfl⟩
  obtain ⟨w5, hw5⟩ : ∃ w5, w5 = w4.alloc (.cells #[.pointer none, Pw (P + 1)] 51) := ⟨_, rfl⟩
  have b3 : Below w2.heap.size w2 w3 := by rw [hw3]; exact below1 _ _
  have b4 : Below w3.heap.size w3 w4 := by rw [hw4]; exact below1 _ _
  have b5 : Below w4.heap.size w4 w5 := by rw [hw5]; exact below1 _ _
  have z3 : w3.heap.size = P + 1 := by rw [hw3, hP]; simp
  have z4 : w4.heap.size = P + 2 := by rw [hw4, S15.alloc_size, z3]
  have z5 : w5.heap.size = P + 3 := by rw [hw5, S15.alloc_size, z4]
  have q3 : w3.heap[P]? = some (.cells #[Pw X.wB, Pw Y.wB] 27 (0, 0)) := by rw [hw3, hP]; exact heap_alloc_new _ _
  have q4 : w4.heap[P + 1]? = some (.cells voidC 50 (0, 0)) := by rw [hw4, ← z3]; exact heap_alloc_new _ _
  have q5 : w5.heap[P + 2]? = some (.cells #[.pointer none, Pw (P + 1)] 51 (0, 0)) := by rw [hw5, ← z4]; exact heap_alloc_new _ _
  have p5 := (b5.block P (by omega)).trans ((b4.block P (by omega)).trans q3)
  have v5 := (b5.block (P + 1) (by omega)).trans q4
  have hbg5 := ((hbg.new b3).new b4).new b5
  have hvj0 : VP w5 (.pointer none) := .inl rfl
  have hvj1 : VP w5 (Pw (P + 1)) := .inr ⟨P + 1, rfl, v5⟩
  have HVJ := Lib.hid (And.intro hvj0 hvj1)
  have HBG5 := Lib.hid hbg5; have HP5 := Lib.hid p5; have HQ5 := Lib.hid q5; have HZ5 := Lib.hid z5
  have ew : w5 = ((w2.alloc (.cells #[Pw X.wB, Pw Y.wB] 27)).alloc (.cells #[.int .i64 0, .int .u32 0, .int .u64 0, .bool false, .int .u64 0, .nilIface, .int .i64 0, .int .i64 0, .nilIface, .nilFunc, .int .u8 0] 50)).alloc (.cells #[.pointer none, Pw (w2.heap.size + 1)] 51) := by rw [hw5, hw4, hw3, hP]; rfl
  rw [← ew, ← hP]
  have HBG2 := Lib.hid hbg; have HB25 := Lib.hid (b3.trans ((b4.trans (b5.mono b4.size)).mono b3.size)); have HPE := Lib.hid hP
  clear hbg hbg5 hw3 hw4 hw5 b3 b4 b5 z3 z4 z5 q3 q4 q5 p5 v5 hvj0 hvj1 ew hP
  by_cases h0 : t < 0
  · have d0 : decide (t < 0) = true := decide_eq_true h0
    have hvd : t < 0 ∨ 64 ≤ t := .inl h0
    have HNO := Lib.hid (fun W => new_void (t := t) (by omega) (k : Int) 1 0 false .nilIface W)
    have HQ5' : Hid (w5.heap[P + 1 + 1]? = some (.cells #[.pointer none, Pw (P + 1)] 51 (0, 0))) := HQ5
    obtain ⟨sv, hsv⟩ : ∃ sv, sv = Value.slice (some ⟨P + 1 + 1, 0, none⟩) 2 2 := ⟨_, rfl⟩
    have hr5 : Row w5 0 1 sv 2 [.pointer none, Pw (P + 1)] := by
      refine ⟨_, _, hsv, rfl, Nat.le_refl _, by decide, (fun e => by cases e), fun ad e => ?_⟩
      cases e
      refine ⟨P + 1 + 1, 0, rfl, Nat.zero_le _, by have := HZ5.out; omega, fun k u hk => ?_, fun k hk => ?_⟩
      · rw [Nat.zero_add, cell_row HQ5'.out]
        rw [← hk]; rcases k with _ | _ | k <;> rfl
      · rw [Nat.zero_add]
        refine ⟨?_, froz_row HQ5'.out k⟩
        rw [cell_row HQ5'.out]
        rcases (show k = 0 ∨ k = 1 by omega) with rfl | rfl <;> rfl
    rw [← hsv]
    have hown : ∀ g, sv.ownBlock = some g → g = P + 1 + 1 := fun g e => by rw [hsv] at e; injection e with e; exact e.symm
    have HOWN := Lib.hid hown
    have HV7 : Hid (∀ (w6 : World) (B6 : Nat), w5.heap.size ≤ B6 → Below w5.heap.size w5 w6 → w6.heap[B6]? = some (.cells voidC 50 (0, 0)) → Row (w6.alloc (.cells #[Pw B6] 51)) 0 1 sv 2 [.pointer none, Pw (P + 1)] ∧ VP (w6.alloc (.cells #[Pw B6] 51)) (Pw (P + 1)) ∧ VP (w6.alloc (.cells #[Pw B6] 51)) (Pw B6) ∧ (w6.alloc (.cells #[Pw B6] 51)).heap[P]? = some (.cells #[Pw X.wB, Pw Y.wB] 27 (0, 0)) ∧ Below w5.heap.size w5 (w6.alloc (.cells #[Pw B6] 51)) ∧ P + 3 ≤ B6 ∧ P + 3 ≤ (w6.alloc (.cells #[Pw B6] 51)).heap.size) := Lib.hid (fun w6 B6 hge hb6 hq6 => by
      have b7 := below1 w6 (.cells #[Pw B6] 51)
      have z := HZ5.out
      have bb := hb6.trans (b7.mono hb6.size)
      refine ⟨row_new (row_new hr5 hb6) b7, HVJ.out.2.new bb, .inr ⟨_, rfl, (b7.block _ (heap_lt hq6)).trans hq6⟩, (bb.block P (by omega)).trans HP5.out, bb, by omega, by have := bb.size; omega⟩)
    have HR1 := Lib.hid (fun (w6 : World) (B6 : Nat) => S10.rd_one1 w6 (Pw B6) 51)
    clear hr5 hsv hown
    go_upto_region 5 with fail
    go_upto_region 6 with (first
      | (go_at_call 8; refine (HNO.out _).mono ?_; rintro e w6 ⟨B6, rfl, hge, hb6, hq6⟩; have HW7 := Lib.hid (HV7.out w6 B6 hge hb6 hq6); clear hge hb6 hq6)
      | (at_builtin; refine wpList_append_row lay52 rfl _ _ rfl rfl HW7.out.1 (fun u hu => by simp at hu; rcases hu with rfl | rfl <;> rfl) (Nat.zero_le _) 1 rfl (HR1.out w6 B6) rfl (fun u hu => by rw [List.mem_singleton] at hu; rw [hu]; rfl) (by simp) ?_; intro v2 W hr2 ht2 ho2; have HR2 := Lib.hid hr2; have HT2 := Lib.hid ht2; clear hr2 ht2 ho2))
    obtain ⟨Ao, cap, hv2, _, hc1, hc2, hc3, hc4⟩ := HR2.out
    rw [show (2 + 1 : Nat) = 3 from rfl] at hv2
    subst hv2
    have hcap : cap < 9223372036854775808 := by unfold maxLen at hc2; omega
    cases Ao with
    | none => have := hc3 rfl; omega
    | some ad =>
      obtain ⟨g, o, rfl, _, hlt, hl, _⟩ := hc4 ad rfl
      have hnS : ∀ k, k ≠ P + 1 + 1 → ¬ sv.ownBlock = some k := fun k hk e => hk (HOWN.out k e)
      obtain ⟨_, hw71, hw72, hw73, hw74, hw75, hw76⟩ := HW7.out
      have hpw : W.heap[P]? = some (.cells #[Pw X.wB, Pw Y.wB] 27 (0, 0)) := (HT2.out.block P (by omega) (hnS P (by omega))).trans hw73
      have hsz := HT2.out.size
      have hPs : P < W.heap.size := by omega
      have hb2W : Below w2.heap.size w2 W := (HB25.out.trans (hw74.mono HB25.out.size)).trans ⟨HT2.out.os, HT2.out.tape, HT2.out.output, HT2.out.size, fun k hk => HT2.out.block k (by have := HPE.out; omega) (hnS k (by have := HPE.out; omega))⟩
      have hbw := HBG2.out.new hb2W
      have HAT : Hid (∀ k, k < 3 → ∃ v, W.cell? ⟨g, o + k, none⟩ = some v ∧ VP W v ∧ g < W.heap.size) := Lib.hid (by
        intro k hk
        have hv1 : VP W (Pw (P + 1)) := vp_turn hw71 HT2.out (fun B e => hnS B (by injection e with e; injection e with e; injection e with e; omega))
        have hv3 : VP W (Pw B6) := vp_turn hw72 HT2.out (fun B e => hnS B (by injection e with e; injection e with e; injection e with e; omega))
        rcases (show k = 0 ∨ k = 1 ∨ k = 2 by omega) with rfl | rfl | rfl
        · exact ⟨_, hl 0 _ rfl, .inl rfl, hlt⟩
        · exact ⟨_, hl 1 _ rfl, hv1, hlt⟩
        · exact ⟨_, hl 2 _ rfl, hv3, hlt⟩)
      clear hc1 hc2 hc3 hc4 hl hlt hnS hsz hb2W hw71 hw72 hw73 hw74 hw75 hw76
      have HPC : Hid (∀ w', Below W.heap.size W w' → w'.cell? ⟨P, 0, none⟩ = some (Pw X.wB)) := Lib.hid (fun w' b => (cell_row ((b.block P (by omega)).trans hpw) 0))
      have HPP : Hid (∀ w', Below W.heap.size W w' → w'.cell? ⟨P, 0, none⟩ = some (Pw X.wB) ∧ w'.cell? ⟨P, 1, none⟩ = some (Pw Y.wB)) := Lib.hid (fun w' b => ⟨cell_row ((b.block P (by omega)).trans hpw) 0, cell_row ((b.block P (by omega)).trans hpw) 1⟩)
      have HBL : Hid (∀ w', Below W.heap.size W w' → Below w.heap.size w w') := Lib.hid (fun w' b => hbw.bl.trans (b.mono hbw.bl.size))
      have HALL : Hid (∀ w', Below W.heap.size W w' → Calls Tryz.prog 17 #[.agg #[Pw X.wB, Pw Y.wB]] w' fun e w2 => e = .returned (.bool true) ∧ Below w'.heap.size w' w2) := Lib.hid (fun w' b => pair_all (hbw.new b) (by omega) (by omega))
      have HSE : Hid (∀ w', Below W.heap.size W w' → w'.cell? ⟨X.wB, 4, none⟩ = some X.ts ∧ w'.cell? ⟨Y.wB, 4, none⟩ = some Y.ts ∧ Calls Tryz.prog 16 #[X.ts, Y.ts] w' fun e w2 => e = .returned (.bool true) ∧ Below w'.heap.size w' w2) := Lib.hid (fun w' b => ⟨(hbw.new b).c.2.2.1, (hbw.new b).c.2.2.2.2.2, S10.same_sets (hbw.new b).se (hbw.new b).gd (by omega)⟩)
      have HLV : Hid (∀ w', Below W.heap.size W w' → Calls Tryz.prog 18 #[] w' fun e w2 => e = .returned (.bool true) ∧ Below w'.heap.size w' w2) := Lib.hid (fun w' b => lives18 w' (HTB.out.below (HBL.out _ b) HTB.out.1) (Nat.lt_of_lt_of_le HTB.out.1 (HBL.out _ b).size))
      clear hpw hbw hPs
      go_upto_region 7 with fail
      go_loopg [8] (3 + 1) (fun q s6 wx => ∃ i : Nat, i ≤ 3 ∧ q = 3 + 1 - i ∧ s6 = .int .i64 (i : Int) ∧ Below W.heap.size W wx)
      case atStart => exact ⟨0, by omega, rfl, rfl, Below.refl _ _⟩
      case round =>
        obtain ⟨i, hi, rfl, rfl, hb⟩ := hrel
        have HB := Lib.hid hb
        by_cases he : i < 3
        · have d7 : decide (i < 3) = true := decide_eq_true he
          have d7' : (i : Int) < 3 := by omega
          obtain ⟨v, hv, hvj, hA⟩ := HAT.out i he
          have hS0 : ∀ w', Below W.heap.size W w' → Below W.heap.size W w' ∧ w'.cell? ⟨g, o + i, none⟩ = some v ∧ w'.cell? ⟨P, 0, none⟩ = some (Pw X.wB) := fun w' b => ⟨b, (b.cell (p := ⟨g, o + i, none⟩) hA).trans hv, (HPC.out _ b)⟩
          have HS := Lib.hid hS0
          have HOV : Hid (∀ w', Below W.heap.size W w' → Calls Tryz.prog 10 #[v] w' fun e w2 => e = .returned (.bool true) ∧ w' = w2) := Lib.hid (fun w' b => over_vp (hvj.new b))
          have HPV : Hid (∀ w', Below W.heap.size W w' → Calls Tryz.prog 12 #[v] w' fun e w2 => e = .returned (.bool false) ∧ w' = w2) := Lib.hid (fun w' b => parked_vp (hvj.new b))
          have HSV : Hid (∀ w', Below W.heap.size W w' → ∀ x, Calls Tryz.prog 11 #[v, x] w' fun e w2 => e = .returned (.bool true) ∧ w' = w2) := Lib.hid (fun w' b x => step_vp (hvj.new b) x)
          have HGV : Hid (∀ w', Below W.heap.size W w' → ∀ x, Calls Tryz.prog 9 #[v, x] w' fun e w2 => e = .returned (.tuple #[.int .u8 0, .int .u64 0]) ∧ w' = w2) := Lib.hid (fun w' b x => got_vp (hvj.new b) x)
          have HE := Lib.hid he
          clear hb hi hv hvj hA he
          go_upto_region 9 with fail
          have g1 := (hS0 _ HB.out.drew).2.1
          have g2 := (hS0 _ HB.out.drew).2.2
          clear hS0
          go_region_law (go_simp; go_at_call 9; refine (HGV.out _ (HB.out.drew) _).mono ?_; rintro e' w2 ⟨rfl, rfl⟩)
          · clear g1 g2
            go_upto_region 10 with fail
            refine wp_region_held_drew (S := fun w' => Below W.heap.size W w' ∧ w'.cell? ⟨g, o + i, none⟩ = some v ∧ w'.cell? ⟨P, 0, none⟩ = some (Pw X.wB)) (by kernel_rfl) ?_ (fun hHeld => ?_)
            · first | exact HS.out _ HB.out.drew.drew | exact HS.out _ (HB.out.drew)
            refine tA 0 ⟨some 47, .move (.tmp 7), 52, "law.go:116", #[], none⟩ ?vvapm1 ?rvapm1
            (try simp only [Act.put, tC, tD, tE])
            refine tA 1 ⟨some 48, .move (.tmp 8), 3, "law.go:116", #[], none⟩ ?vvapm2 ?rvapm2
            (try simp only [Act.put, tC, tD, tE])
            refine tA 2 ⟨some 49, .indexAddr 52 (.tmp 47) (.tmp 48), 0, "law.go:116", #[⟨0, .data⟩, ⟨1, .data⟩], none⟩ ?vvapm3 ?rvapm3
            (try simp only [Act.put, tC, tD, tE])
            refine tA 3 ⟨some 50, .load 51 (.tmp 49), 51, "law.go:116", #[⟨2, .data⟩], none⟩ ?vvapm4 ?rvapm4
            (try simp only [Act.put, tC, tD, tE])
            refine wpAnyH_ready (rs := [4]) (by kernel_rfl) (by simp) ?_
            refine AllReadyH.cons (o := ⟨some 51, .call ⟨.value (.func 10), #[.tmp 50], #[51]⟩, 4, "law.go:116", #[⟨3, .data⟩], none⟩) rfl (fun Kq hKq => ?_) AllReadyH.nil
            go_simp
            (refine (HOV.out _ hHeld.1).mono ?_; rintro e' w2 ⟨rfl, rfl⟩)
            refine hKq.out _ _ ?_ (fun hHeld => ?_)
            · exact hHeld
            clear hKq Kq
            (try simp only [Act.put, tC, tD, tE])
            refine tA 5 ⟨some 52, .unOp .not 4 (.tmp 51), 4, "law.go:116", #[⟨4, .data⟩], none⟩ ?vvapm5 ?rvapm5
            (try simp only [Act.put, tC, tD, tE])
            refine tA 6 ⟨some 53, .move (.tmp 52), 4, "law.go:116", #[⟨5, .data⟩, ⟨4, .chain⟩], none⟩ ?vvapm6 ?rvapm6
            (try simp only [Act.put, tC, tD, tE])
            refine tA 7 ⟨some 54, .move (.tmp 7), 52, "law.go:116", #[⟨6, .guard⟩], some (6, false)⟩ ?vvapm7 ?rvapm7
            (try simp only [Act.put, tC, tD, tE])
            refine tA 8 ⟨some 55, .move (.tmp 8), 3, "law.go:116", #[⟨6, .guard⟩], some (6, false)⟩ ?vvapm8 ?rvapm8
            (try simp only [Act.put, tC, tD, tE])
            refine tA 9 ⟨some 56, .indexAddr 52 (.tmp 54) (.tmp 55), 0, "law.go:116", #[⟨7, .data⟩, ⟨8, .data⟩, ⟨6, .guard⟩], some (6, false)⟩ ?vvapm9 ?rvapm9
            (try simp only [Act.put, tC, tD, tE])
            refine tA 10 ⟨some 57, .load 51 (.tmp 56), 51, "law.go:116", #[⟨9, .data⟩, ⟨6, .guard⟩], some (6, false)⟩ ?vvapm10 ?rvapm10
            (try simp only [Act.put, tC, tD, tE])
            refine tA 11 ⟨some 58, .fieldAddr 27 (.tmp 5) 0, 0, "law.go:116", #[⟨6, .guard⟩], some (6, false)⟩ ?vvapm11 ?rvapm11
            (try simp only [Act.put, tC, tD, tE])
            refine tA 12 ⟨some 59, .load 24 (.tmp 58), 24, "law.go:116", #[⟨11, .data⟩, ⟨6, .guard⟩], some (6, false)⟩ ?vvapm12 ?rvapm12
            (try simp only [Act.put, tC, tD, tE])
            refine wpAnyH_ready (rs := [13]) (by kernel_rfl) (by simp) ?_
            refine AllReadyH.cons (o := ⟨some 60, .call ⟨.value (.func 11), #[.tmp 57, .tmp 59], #[51, 24]⟩, 4, "law.go:116", #[⟨10, .data⟩, ⟨12, .data⟩, ⟨6, .chain⟩, ⟨6, .guard⟩], some (6, false)⟩) rfl (fun Kq hKq => ?_) AllReadyH.nil
            go_simp
            (refine (HSV.out _ hHeld.1 _).mono ?_; rintro e' w2 ⟨rfl, rfl⟩)
            refine hKq.out _ _ ?_ (fun hHeld => ?_)
            · exact hHeld
            clear hKq Kq
            (try simp only [Act.put, tC, tD, tE])
            refine tA 14 ⟨some 61, .unOp .not 4 (.tmp 60), 4, "law.go:116", #[⟨13, .data⟩, ⟨6, .guard⟩], some (6, false)⟩ ?vvapm13 ?rvapm13
            (try simp only [Act.put, tC, tD, tE])
            refine tA 15 ⟨some 62, .pick (.tmp 53) (.const (.bool true)) (.tmp 61), 4, "law.go:116", #[⟨6, .data⟩, ⟨14, .data⟩], none⟩ ?vvapm14 ?rvapm14
            (try simp only [Act.put, tC, tD, tE])
            refine tA 16 ⟨some 63, .move (.tmp 62), 4, "law.go:116", #[⟨15, .data⟩, ⟨13, .chain⟩], none⟩ ?vvapm15 ?rvapm15
            (try simp only [Act.put, tC, tD, tE])
            refine tA 17 ⟨some 64, .move (.tmp 7), 52, "law.go:116", #[⟨16, .guard⟩], some (16, false)⟩ ?vvapm16 ?rvapm16
            (try simp only [Act.put, tC, tD, tE])
            refine tA 18 ⟨some 65, .move (.tmp 8), 3, "law.go:116", #[⟨16, .guard⟩], some (16, false)⟩ ?vvapm17 ?rvapm17
            (try simp only [Act.put, tC, tD, tE])
            refine tA 19 ⟨some 66, .indexAddr 52 (.tmp 64) (.tmp 65), 0, "law.go:116", #[⟨17, .data⟩, ⟨18, .data⟩, ⟨16, .guard⟩], some (16, false)⟩ ?vvapm18 ?rvapm18
            (try simp only [Act.put, tC, tD, tE])
            refine tA 20 ⟨some 67, .load 51 (.tmp 66), 51, "law.go:116", #[⟨19, .data⟩, ⟨16, .guard⟩], some (16, false)⟩ ?vvapm19 ?rvapm19
            (try simp only [Act.put, tC, tD, tE])
            refine wpAnyH_ready (rs := [21]) (by kernel_rfl) (by simp) ?_
            refine AllReadyH.cons (o := ⟨some 68, .call ⟨.value (.func 11), #[.tmp 67, .const (.pointer none)], #[51, 24]⟩, 4, "law.go:116", #[⟨20, .data⟩, ⟨16, .chain⟩, ⟨16, .guard⟩], some (16, false)⟩) rfl (fun Kq hKq => ?_) AllReadyH.nil
            go_simp
            (refine (HSV.out _ hHeld.1 _).mono ?_; rintro e' w2 ⟨rfl, rfl⟩)
            refine hKq.out _ _ ?_ (fun hHeld => ?_)
            · exact hHeld
            clear hKq Kq
            (try simp only [Act.put, tC, tD, tE])
            refine tA 22 ⟨some 69, .unOp .not 4 (.tmp 68), 4, "law.go:116", #[⟨21, .data⟩, ⟨16, .guard⟩], some (16, false)⟩ ?vvapm20 ?rvapm20
            (try simp only [Act.put, tC, tD, tE])
            refine tA 23 ⟨some 70, .pick (.tmp 63) (.const (.bool true)) (.tmp 69), 4, "law.go:116", #[⟨16, .data⟩, ⟨22, .data⟩], none⟩ ?vvapm21 ?rvapm21
            (try simp only [Act.put, tC, tD, tE])
            refine tA 24 ⟨some 71, .move (.tmp 70), 4, "law.go:116", #[⟨23, .data⟩, ⟨21, .chain⟩], none⟩ ?vvapm22 ?rvapm22
            (try simp only [Act.put, tC, tD, tE])
            refine tA 25 ⟨some 72, .move (.tmp 7), 52, "law.go:116", #[⟨24, .guard⟩], some (24, false)⟩ ?vvapm23 ?rvapm23
            (try simp only [Act.put, tC, tD, tE])
            refine tA 26 ⟨some 73, .move (.tmp 8), 3, "law.go:116", #[⟨24, .guard⟩], some (24, false)⟩ ?vvapm24 ?rvapm24
            (try simp only [Act.put, tC, tD, tE])
            refine tA 27 ⟨some 74, .indexAddr 52 (.tmp 72) (.tmp 73), 0, "law.go:116", #[⟨25, .data⟩, ⟨26, .data⟩, ⟨24, .guard⟩], some (24, false)⟩ ?vvapm25 ?rvapm25
            (try simp only [Act.put, tC, tD, tE])
            refine tA 28 ⟨some 75, .load 51 (.tmp 74), 51, "law.go:116", #[⟨27, .data⟩, ⟨24, .guard⟩], some (24, false)⟩ ?vvapm26 ?rvapm26
            (try simp only [Act.put, tC, tD, tE])
            refine wpAnyH_ready (rs := [29]) (by kernel_rfl) (by simp) ?_
            refine AllReadyH.cons (o := ⟨some 76, .call ⟨.value (.func 12), #[.tmp 75], #[51]⟩, 4, "law.go:116", #[⟨28, .data⟩, ⟨24, .chain⟩, ⟨24, .guard⟩], some (24, false)⟩) rfl (fun Kq hKq => ?_) AllReadyH.nil
            go_simp
            (refine (HPV.out _ hHeld.1).mono ?_; rintro e' w2 ⟨rfl, rfl⟩)
            refine hKq.out _ _ ?_ (fun hHeld => ?_)
            · exact hHeld
            clear hKq Kq
            (try simp only [Act.put, tC, tD, tE])
            refine tA 30 ⟨some 77, .pick (.tmp 71) (.const (.bool true)) (.tmp 76), 4, "law.go:116", #[⟨24, .data⟩, ⟨29, .data⟩], none⟩ ?vvapm27 ?rvapm27
            (try simp only [Act.put, tC, tD, tE])
            refine tA 31 ⟨some 78, .move (.tmp 77), 4, "law.go:116", #[⟨30, .data⟩, ⟨29, .chain⟩], none⟩ ?vvapm28 ?rvapm28
            (try simp only [Act.put, tC, tD, tE])
            refine tA 32 ⟨some 79, .move (.tmp 9), 48, "law.go:116", #[⟨31, .guard⟩], some (31, false)⟩ ?vvapm29 ?rvapm29
            (try simp only [Act.put, tC, tD, tE])
            refine tA 33 ⟨some 80, .binOp .neq 48 (.tmp 79) (.const (.int .u8 0)) 48, 4, "law.go:116", #[⟨32, .data⟩, ⟨31, .guard⟩], some (31, false)⟩ ?vvapm30 ?rvapm30
            (try simp only [Act.put, tC, tD, tE])
            refine tA 34 ⟨some 81, .pick (.tmp 78) (.const (.bool true)) (.tmp 80), 4, "law.go:116", #[⟨31, .data⟩, ⟨33, .data⟩], none⟩ ?vvapm31 ?rvapm31
            (try simp only [Act.put, tC, tD, tE])
            refine tA 35 ⟨some 82, .move (.tmp 81), 4, "law.go:116", #[⟨34, .data⟩, ⟨31, .chain⟩], none⟩ ?vvapm32 ?rvapm32
            (try simp only [Act.put, tC, tD, tE])
            refine tA 36 ⟨some 83, .move (.tmp 10), 29, "law.go:116", #[⟨35, .guard⟩], some (35, false)⟩ ?vvapm33 ?rvapm33
            (try simp only [Act.put, tC, tD, tE])
            refine tA 37 ⟨some 84, .binOp .neq 29 (.tmp 83) (.const (.int .u64 0)) 29, 4, "law.go:116", #[⟨36, .data⟩, ⟨35, .guard⟩], some (35, false)⟩ ?vvapm34 ?rvapm34
            (try simp only [Act.put, tC, tD, tE])
            refine tA 38 ⟨some 85, .pick (.tmp 82) (.const (.bool true)) (.tmp 84), 4, "law.go:116", #[⟨35, .data⟩, ⟨37, .data⟩], none⟩ ?vvapm35 ?rvapm35
            (try simp only [Act.put, tC, tD, tE])
            refine wpAnyH_done (by kernel_rfl) ?_ _
            go_wp2_with fail
            go_roundg (3 + 1 - (i + 1))
            case measure => have := HE.out; omega
            case rel => exact ⟨i + 1, HE.out, rfl, congrArg (Value.int .i64) (by have h1 := HE.out; first | omega | (unfold wrap64; omega)), hHeld.1⟩
          · clear g1 g2
            go_upto_region 10 with fail
            refine wp_region_held_drew (S := fun w' => Below W.heap.size W w' ∧ w'.cell? ⟨g, o + i, none⟩ = some v ∧ w'.cell? ⟨P, 0, none⟩ = some (Pw X.wB)) (by kernel_rfl) ?_ (fun hHeld => ?_)
            · first | exact HS.out _ HB.out.drew.drew | exact HS.out _ (HB.out.drew)
            refine tA 0 ⟨some 47, .move (.tmp 7), 52, "law.go:116", #[], none⟩ ?vvaqm1 ?rvaqm1
            (try simp only [Act.put, tC, tD, tE])
            refine tA 1 ⟨some 48, .move (.tmp 8), 3, "law.go:116", #[], none⟩ ?vvaqm2 ?rvaqm2
            (try simp only [Act.put, tC, tD, tE])
            refine tA 2 ⟨some 49, .indexAddr 52 (.tmp 47) (.tmp 48), 0, "law.go:116", #[⟨0, .data⟩, ⟨1, .data⟩], none⟩ ?vvaqm3 ?rvaqm3
            (try simp only [Act.put, tC, tD, tE])
            refine tA 3 ⟨some 50, .load 51 (.tmp 49), 51, "law.go:116", #[⟨2, .data⟩], none⟩ ?vvaqm4 ?rvaqm4
            (try simp only [Act.put, tC, tD, tE])
            refine wpAnyH_ready (rs := [4]) (by kernel_rfl) (by simp) ?_
            refine AllReadyH.cons (o := ⟨some 51, .call ⟨.value (.func 10), #[.tmp 50], #[51]⟩, 4, "law.go:116", #[⟨3, .data⟩], none⟩) rfl (fun Kq hKq => ?_) AllReadyH.nil
            go_simp
            (refine (HOV.out _ hHeld.1).mono ?_; rintro e' w2 ⟨rfl, rfl⟩)
            refine hKq.out _ _ ?_ (fun hHeld => ?_)
            · exact hHeld
            clear hKq Kq
            (try simp only [Act.put, tC, tD, tE])
            refine tA 5 ⟨some 52, .unOp .not 4 (.tmp 51), 4, "law.go:116", #[⟨4, .data⟩], none⟩ ?vvaqm5 ?rvaqm5
            (try simp only [Act.put, tC, tD, tE])
            refine tA 6 ⟨some 53, .move (.tmp 52), 4, "law.go:116", #[⟨5, .data⟩, ⟨4, .chain⟩], none⟩ ?vvaqm6 ?rvaqm6
            (try simp only [Act.put, tC, tD, tE])
            refine tA 7 ⟨some 54, .move (.tmp 7), 52, "law.go:116", #[⟨6, .guard⟩], some (6, false)⟩ ?vvaqm7 ?rvaqm7
            (try simp only [Act.put, tC, tD, tE])
            refine tA 8 ⟨some 55, .move (.tmp 8), 3, "law.go:116", #[⟨6, .guard⟩], some (6, false)⟩ ?vvaqm8 ?rvaqm8
            (try simp only [Act.put, tC, tD, tE])
            refine tA 9 ⟨some 56, .indexAddr 52 (.tmp 54) (.tmp 55), 0, "law.go:116", #[⟨7, .data⟩, ⟨8, .data⟩, ⟨6, .guard⟩], some (6, false)⟩ ?vvaqm9 ?rvaqm9
            (try simp only [Act.put, tC, tD, tE])
            refine tA 10 ⟨some 57, .load 51 (.tmp 56), 51, "law.go:116", #[⟨9, .data⟩, ⟨6, .guard⟩], some (6, false)⟩ ?vvaqm10 ?rvaqm10
            (try simp only [Act.put, tC, tD, tE])
            refine tA 11 ⟨some 58, .fieldAddr 27 (.tmp 5) 0, 0, "law.go:116", #[⟨6, .guard⟩], some (6, false)⟩ ?vvaqm11 ?rvaqm11
            (try simp only [Act.put, tC, tD, tE])
            refine tA 12 ⟨some 59, .load 24 (.tmp 58), 24, "law.go:116", #[⟨11, .data⟩, ⟨6, .guard⟩], some (6, false)⟩ ?vvaqm12 ?rvaqm12
            (try simp only [Act.put, tC, tD, tE])
            refine wpAnyH_ready (rs := [13]) (by kernel_rfl) (by simp) ?_
            refine AllReadyH.cons (o := ⟨some 60, .call ⟨.value (.func 11), #[.tmp 57, .tmp 59], #[51, 24]⟩, 4, "law.go:116", #[⟨10, .data⟩, ⟨12, .data⟩, ⟨6, .chain⟩, ⟨6, .guard⟩], some (6, false)⟩) rfl (fun Kq hKq => ?_) AllReadyH.nil
            go_simp
            (refine (HSV.out _ hHeld.1 _).mono ?_; rintro e' w2 ⟨rfl, rfl⟩)
            refine hKq.out _ _ ?_ (fun hHeld => ?_)
            · exact hHeld
            clear hKq Kq
            (try simp only [Act.put, tC, tD, tE])
            refine tA 14 ⟨some 61, .unOp .not 4 (.tmp 60), 4, "law.go:116", #[⟨13, .data⟩, ⟨6, .guard⟩], some (6, false)⟩ ?vvaqm13 ?rvaqm13
            (try simp only [Act.put, tC, tD, tE])
            refine tA 15 ⟨some 62, .pick (.tmp 53) (.const (.bool true)) (.tmp 61), 4, "law.go:116", #[⟨6, .data⟩, ⟨14, .data⟩], none⟩ ?vvaqm14 ?rvaqm14
            (try simp only [Act.put, tC, tD, tE])
            refine tA 16 ⟨some 63, .move (.tmp 62), 4, "law.go:116", #[⟨15, .data⟩, ⟨13, .chain⟩], none⟩ ?vvaqm15 ?rvaqm15
            (try simp only [Act.put, tC, tD, tE])
            refine tA 17 ⟨some 64, .move (.tmp 7), 52, "law.go:116", #[⟨16, .guard⟩], some (16, false)⟩ ?vvaqm16 ?rvaqm16
            (try simp only [Act.put, tC, tD, tE])
            refine tA 18 ⟨some 65, .move (.tmp 8), 3, "law.go:116", #[⟨16, .guard⟩], some (16, false)⟩ ?vvaqm17 ?rvaqm17
            (try simp only [Act.put, tC, tD, tE])
            refine tA 19 ⟨some 66, .indexAddr 52 (.tmp 64) (.tmp 65), 0, "law.go:116", #[⟨17, .data⟩, ⟨18, .data⟩, ⟨16, .guard⟩], some (16, false)⟩ ?vvaqm18 ?rvaqm18
            (try simp only [Act.put, tC, tD, tE])
            refine tA 20 ⟨some 67, .load 51 (.tmp 66), 51, "law.go:116", #[⟨19, .data⟩, ⟨16, .guard⟩], some (16, false)⟩ ?vvaqm19 ?rvaqm19
            (try simp only [Act.put, tC, tD, tE])
            refine wpAnyH_ready (rs := [21]) (by kernel_rfl) (by simp) ?_
            refine AllReadyH.cons (o := ⟨some 68, .call ⟨.value (.func 11), #[.tmp 67, .const (.pointer none)], #[51, 24]⟩, 4, "law.go:116", #[⟨20, .data⟩, ⟨16, .chain⟩, ⟨16, .guard⟩], some (16, false)⟩) rfl (fun Kq hKq => ?_) AllReadyH.nil
            go_simp
            (refine (HSV.out _ hHeld.1 _).mono ?_; rintro e' w2 ⟨rfl, rfl⟩)
            refine hKq.out _ _ ?_ (fun hHeld => ?_)
            · exact hHeld
            clear hKq Kq
            (try simp only [Act.put, tC, tD, tE])
            refine tA 22 ⟨some 69, .unOp .not 4 (.tmp 68), 4, "law.go:116", #[⟨21, .data⟩, ⟨16, .guard⟩], some (16, false)⟩ ?vvaqm20 ?rvaqm20
            (try simp only [Act.put, tC, tD, tE])
            refine tA 23 ⟨some 70, .pick (.tmp 63) (.const (.bool true)) (.tmp 69), 4, "law.go:116", #[⟨16, .data⟩, ⟨22, .data⟩], none⟩ ?vvaqm21 ?rvaqm21
            (try simp only [Act.put, tC, tD, tE])
            refine tA 24 ⟨some 71, .move (.tmp 70), 4, "law.go:116", #[⟨23, .data⟩, ⟨21, .chain⟩], none⟩ ?vvaqm22 ?rvaqm22
            (try simp only [Act.put, tC, tD, tE])
            refine tA 25 ⟨some 72, .move (.tmp 7), 52, "law.go:116", #[⟨24, .guard⟩], some (24, false)⟩ ?vvaqm23 ?rvaqm23
            (try simp only [Act.put, tC, tD, tE])
            refine tA 26 ⟨some 73, .move (.tmp 8), 3, "law.go:116", #[⟨24, .guard⟩], some (24, false)⟩ ?vvaqm24 ?rvaqm24
            (try simp only [Act.put, tC, tD, tE])
            refine tA 27 ⟨some 74, .indexAddr 52 (.tmp 72) (.tmp 73), 0, "law.go:116", #[⟨25, .data⟩, ⟨26, .data⟩, ⟨24, .guard⟩], some (24, false)⟩ ?vvaqm25 ?rvaqm25
            (try simp only [Act.put, tC, tD, tE])
            refine tA 28 ⟨some 75, .load 51 (.tmp 74), 51, "law.go:116", #[⟨27, .data⟩, ⟨24, .guard⟩], some (24, false)⟩ ?vvaqm26 ?rvaqm26
            (try simp only [Act.put, tC, tD, tE])
            refine wpAnyH_ready (rs := [29]) (by kernel_rfl) (by simp) ?_
            refine AllReadyH.cons (o := ⟨some 76, .call ⟨.value (.func 12), #[.tmp 75], #[51]⟩, 4, "law.go:116", #[⟨28, .data⟩, ⟨24, .chain⟩, ⟨24, .guard⟩], some (24, false)⟩) rfl (fun Kq hKq => ?_) AllReadyH.nil
            go_simp
            (refine (HPV.out _ hHeld.1).mono ?_; rintro e' w2 ⟨rfl, rfl⟩)
            refine hKq.out _ _ ?_ (fun hHeld => ?_)
            · exact hHeld
            clear hKq Kq
            (try simp only [Act.put, tC, tD, tE])
            refine tA 30 ⟨some 77, .pick (.tmp 71) (.const (.bool true)) (.tmp 76), 4, "law.go:116", #[⟨24, .data⟩, ⟨29, .data⟩], none⟩ ?vvaqm27 ?rvaqm27
            (try simp only [Act.put, tC, tD, tE])
            refine tA 31 ⟨some 78, .move (.tmp 77), 4, "law.go:116", #[⟨30, .data⟩, ⟨29, .chain⟩], none⟩ ?vvaqm28 ?rvaqm28
            (try simp only [Act.put, tC, tD, tE])
            refine tA 32 ⟨some 79, .move (.tmp 9), 48, "law.go:116", #[⟨31, .guard⟩], some (31, false)⟩ ?vvaqm29 ?rvaqm29
            (try simp only [Act.put, tC, tD, tE])
            refine tA 33 ⟨some 80, .binOp .neq 48 (.tmp 79) (.const (.int .u8 0)) 48, 4, "law.go:116", #[⟨32, .data⟩, ⟨31, .guard⟩], some (31, false)⟩ ?vvaqm30 ?rvaqm30
            (try simp only [Act.put, tC, tD, tE])
            refine tA 34 ⟨some 81, .pick (.tmp 78) (.const (.bool true)) (.tmp 80), 4, "law.go:116", #[⟨31, .data⟩, ⟨33, .data⟩], none⟩ ?vvaqm31 ?rvaqm31
            (try simp only [Act.put, tC, tD, tE])
            refine tA 35 ⟨some 82, .move (.tmp 81), 4, "law.go:116", #[⟨34, .data⟩, ⟨31, .chain⟩], none⟩ ?vvaqm32 ?rvaqm32
            (try simp only [Act.put, tC, tD, tE])
            refine tA 36 ⟨some 83, .move (.tmp 10), 29, "law.go:116", #[⟨35, .guard⟩], some (35, false)⟩ ?vvaqm33 ?rvaqm33
            (try simp only [Act.put, tC, tD, tE])
            refine tA 37 ⟨some 84, .binOp .neq 29 (.tmp 83) (.const (.int .u64 0)) 29, 4, "law.go:116", #[⟨36, .data⟩, ⟨35, .guard⟩], some (35, false)⟩ ?vvaqm34 ?rvaqm34
            (try simp only [Act.put, tC, tD, tE])
            refine tA 38 ⟨some 85, .pick (.tmp 82) (.const (.bool true)) (.tmp 84), 4, "law.go:116", #[⟨35, .data⟩, ⟨37, .data⟩], none⟩ ?vvaqm35 ?rvaqm35
            (try simp only [Act.put, tC, tD, tE])
            refine wpAnyH_done (by kernel_rfl) ?_ _
            go_wp2_with fail
            go_roundg (3 + 1 - (i + 1))
            case measure => have := HE.out; omega
            case rel => exact ⟨i + 1, HE.out, rfl, congrArg (Value.int .i64) (by have h1 := HE.out; first | omega | (unfold wrap64; omega)), hHeld.1⟩
        · obtain rfl : i = 3 := by omega
          clear hb hi he
          go_upto_region 12 with fail
          go_upto_region 13 with (go_at_call 8; refine (HNJ.out _).mono ?_; rintro e w9 ⟨B9, U9, q9, rfl, hn9, hb9⟩; have HF := Lib.hid hn9; have HB9 := Lib.hid (HB.out.trans (hb9.mono HB.out.size)); clear hn9 hb9)
          have HG9 := Lib.hid (got_by (n := 0) (cell_row HF.out 10) (by omega) (.pointer none))
          go_upto_region 14 with (go_at_call 9; refine HG9.out.mono ?_; rintro e w10 ⟨rfl, rfl⟩)
          clear HG9
          go_upto_region 15 with fail
          have HST : Hid (∀ w', Below w9.heap.size w9 w' → Calls Tryz.prog 11 #[Pw B9, .pointer none] w' fun e w2 => e = .returned (.bool false) ∧ w' = w2) := Lib.hid (fun w' b => step_now ⟨_, _, cell_row ((b.block _ (heap_lt HF.out)).trans HF.out) 8⟩)
          have HOV : Hid (∀ w', Below w9.heap.size w9 w' → Calls Tryz.prog 10 #[Pw B9] w' fun e w2 => e = .returned (.bool false) ∧ w' = w2) := Lib.hid (fun w' b => over_no ⟨_, _, cell_row ((b.block _ (heap_lt HF.out)).trans HF.out) 8⟩)
          have HSK : Hid (∀ w', Below w9.heap.size w9 w' → Below w9.heap.size w9 w' ∧ w'.cell? ⟨P, 0, none⟩ = some (Pw X.wB) ∧ w'.cell? ⟨P, 1, none⟩ = some (Pw Y.wB) ∧ w'.cell? ⟨X.wB, 4, none⟩ = some X.ts ∧ w'.cell? ⟨Y.wB, 4, none⟩ = some Y.ts) := Lib.hid (fun w' b => by
            have bW := HB9.out.trans (b.mono HB9.out.size)
            exact ⟨b, (HPP.out _ bW).1, (HPP.out _ bW).2, (HSE.out _ bW).1, (HSE.out _ bW).2.1⟩)
          have HBW : Hid (∀ w', Below w9.heap.size w9 w' → Below W.heap.size W w') := Lib.hid (fun w' b => HB9.out.trans (b.mono HB9.out.size))
          refine wp_region_held_drew (S := fun w' => Below w9.heap.size w9 w' ∧ w'.cell? ⟨P, 0, none⟩ = some (Pw X.wB) ∧ w'.cell? ⟨P, 1, none⟩ = some (Pw Y.wB) ∧ w'.cell? ⟨X.wB, 4, none⟩ = some X.ts ∧ w'.cell? ⟨Y.wB, 4, none⟩ = some Y.ts) (by kernel_rfl) ?_ (fun hHeld => ?_)
          · exact HSK.out _ ((below1 _ _).trans (Below.refl _ _).drew)
          refine tA 0 ⟨some 95, .move (.tmp 11), 51, "law.go:123", #[], none⟩ ?vvazm1 ?rvazm1
          (try simp only [Act.put, tC, tD, tE])
          refine wpAnyH_ready (rs := [1]) (by kernel_rfl) (by simp) ?_
          refine AllReadyH.cons (o := ⟨some 96, .call ⟨.value (.func 11), #[.tmp 95, .const (.pointer none)], #[51, 24]⟩, 4, "law.go:123", #[⟨0, .data⟩], none⟩) rfl (fun Kq hKq => ?_) AllReadyH.nil
          go_simp
          (refine (HST.out _ hHeld.1).mono ?_; rintro e' w2 ⟨rfl, rfl⟩)
          refine hKq.out _ _ ?_ (fun hHeld => ?_)
          · exact hHeld
          clear hKq Kq
          (try simp only [Act.put, tC, tD, tE])
          refine tA 2 ⟨some 97, .unOp .not 4 (.tmp 96), 4, "law.go:123", #[⟨1, .data⟩], none⟩ ?vvazm2 ?rvazm2
          (try simp only [Act.put, tC, tD, tE])
          refine tA 3 ⟨some 98, .move (.tmp 97), 4, "law.go:123", #[⟨2, .data⟩, ⟨1, .chain⟩], none⟩ ?vvazm3 ?rvazm3
          (try simp only [Act.put, tC, tD, tE])
          refine tA 4 ⟨some 99, .move (.tmp 11), 51, "law.go:123", #[⟨3, .guard⟩], some (3, true)⟩ ?vvazm4 ?rvazm4
          (try simp only [Act.put, tC, tD, tE])
          refine wpAnyH_ready (rs := [5]) (by kernel_rfl) (by simp) ?_
          refine AllReadyH.cons (o := ⟨some 100, .call ⟨.value (.func 10), #[.tmp 99], #[51]⟩, 4, "law.go:123", #[⟨4, .data⟩, ⟨3, .chain⟩, ⟨3, .guard⟩], some (3, true)⟩) rfl (fun Kq hKq => ?_) AllReadyH.nil
          go_simp
          (refine (HOV.out _ hHeld.1).mono ?_; rintro e' w2 ⟨rfl, rfl⟩)
          refine hKq.out _ _ ?_ (fun hHeld => ?_)
          · exact hHeld
          clear hKq Kq
          (try simp only [Act.put, tC, tD, tE])
          refine tA 6 ⟨some 101, .unOp .not 4 (.tmp 100), 4, "law.go:123", #[⟨5, .data⟩, ⟨3, .guard⟩], some (3, true)⟩ ?vvazm5 ?rvazm5
          (try simp only [Act.put, tC, tD, tE])
          refine tA 7 ⟨some 102, .pick (.tmp 98) (.tmp 101) (.const (.bool false)), 4, "law.go:123", #[⟨3, .data⟩, ⟨6, .data⟩], none⟩ ?vvazm6 ?rvazm6
          (try simp only [Act.put, tC, tD, tE])
          refine tA 8 ⟨some 103, .move (.tmp 102), 4, "law.go:123", #[⟨7, .data⟩, ⟨5, .chain⟩], none⟩ ?vvazm7 ?rvazm7
          (try simp only [Act.put, tC, tD, tE])
          refine tA 9 ⟨some 104, .move (.tmp 12), 48, "law.go:123", #[⟨8, .guard⟩], some (8, true)⟩ ?vvazm8 ?rvazm8
          (try simp only [Act.put, tC, tD, tE])
          refine tA 10 ⟨some 105, .binOp .eql 48 (.tmp 104) (.const (.int .u8 0)) 48, 4, "law.go:123", #[⟨9, .data⟩, ⟨8, .guard⟩], some (8, true)⟩ ?vvazm9 ?rvazm9
          (try simp only [Act.put, tC, tD, tE])
          refine tA 11 ⟨some 106, .pick (.tmp 103) (.tmp 105) (.const (.bool false)), 4, "law.go:123", #[⟨8, .data⟩, ⟨10, .data⟩], none⟩ ?vvazm10 ?rvazm10
          (try simp only [Act.put, tC, tD, tE])
          refine tA 12 ⟨some 107, .move (.tmp 106), 4, "law.go:123", #[⟨11, .data⟩, ⟨8, .chain⟩], none⟩ ?vvazm11 ?rvazm11
          (try simp only [Act.put, tC, tD, tE])
          refine tA 13 ⟨some 108, .load 59 (.tmp 14), 59, "law.go:123", #[⟨12, .guard⟩], some (12, true)⟩ ?vvazm12 ?rvazm12
          (try simp only [Act.put, tC, tD, tE])
          refine wpAnyH_ready (rs := [14]) (by kernel_rfl) (by simp) ?_
          refine AllReadyH.cons (o := ⟨some 109, .call ⟨.value (.func 13), #[.tmp 108], #[59]⟩, 61, "law.go:123", #[⟨13, .data⟩, ⟨12, .chain⟩, ⟨12, .guard⟩], some (12, true)⟩) rfl (fun Kq hKq => ?_) AllReadyH.nil
          go_simp
          (refine (pval_any _).mono ?_; rintro e' w2 ⟨rfl, hb2⟩)
          refine hKq.out _ _ ?_ (fun hHeld => ?_)
          · exact HSK.out _ (hHeld.1.trans (hb2.mono hHeld.1.size))
          clear hKq Kq
          (try simp only [Act.put, tC, tD, tE])
          refine tA 15 ⟨some 110, .binOp .eql 61 (.tmp 109) (.const .nilIface) 61, 4, "law.go:123", #[⟨14, .data⟩, ⟨12, .guard⟩], some (12, true)⟩ ?vvazm13 ?rvazm13
          (try simp only [Act.put, tC, tD, tE])
          refine tA 16 ⟨some 111, .pick (.tmp 107) (.tmp 110) (.const (.bool false)), 4, "law.go:123", #[⟨12, .data⟩, ⟨15, .data⟩], none⟩ ?vvazm14 ?rvazm14
          (try simp only [Act.put, tC, tD, tE])
          refine tA 17 ⟨some 112, .move (.tmp 111), 4, "law.go:123", #[⟨16, .data⟩, ⟨14, .chain⟩], none⟩ ?vvazm15 ?rvazm15
          (try simp only [Act.put, tC, tD, tE])
          refine tA 18 ⟨some 113, .load 59 (.tmp 14), 59, "law.go:123", #[⟨17, .guard⟩], some (17, true)⟩ ?vvazm16 ?rvazm16
          (try simp only [Act.put, tC, tD, tE])
          refine wpAnyH_ready (rs := [19]) (by kernel_rfl) (by simp) ?_
          refine AllReadyH.cons (o := ⟨some 114, .call ⟨.value (.func 14), #[.tmp 113], #[59]⟩, 47, "law.go:123", #[⟨18, .data⟩, ⟨17, .chain⟩, ⟨17, .guard⟩], some (17, true)⟩) rfl (fun Kq hKq => ?_) AllReadyH.nil
          go_simp
          (refine (pbef_any _).mono ?_; rintro e' w2 ⟨rfl, hb2⟩)
          refine hKq.out _ _ ?_ (fun hHeld => ?_)
          · exact HSK.out _ (hHeld.1.trans (hb2.mono hHeld.1.size))
          clear hKq Kq
          (try simp only [Act.put, tC, tD, tE])
          refine tA 20 ⟨some 115, .binOp .eql 47 (.tmp 114) (.const .nilIface) 47, 4, "law.go:123", #[⟨19, .data⟩, ⟨17, .guard⟩], some (17, true)⟩ ?vvazm17 ?rvazm17
          (try simp only [Act.put, tC, tD, tE])
          refine tA 21 ⟨some 116, .pick (.tmp 112) (.tmp 115) (.const (.bool false)), 4, "law.go:123", #[⟨17, .data⟩, ⟨20, .data⟩], none⟩ ?vvazm18 ?rvazm18
          (try simp only [Act.put, tC, tD, tE])
          refine tA 22 ⟨some 117, .move (.tmp 116), 4, "law.go:123", #[⟨21, .data⟩, ⟨19, .chain⟩], none⟩ ?vvazm19 ?rvazm19
          (try simp only [Act.put, tC, tD, tE])
          refine tA 23 ⟨some 118, .load 59 (.tmp 14), 59, "law.go:123", #[⟨22, .guard⟩], some (22, true)⟩ ?vvazm20 ?rvazm20
          (try simp only [Act.put, tC, tD, tE])
          refine tA 24 ⟨some 119, .move (.tmp 1), 23, "law.go:123", #[⟨22, .guard⟩], some (22, true)⟩ ?vvazm21 ?rvazm21
          (try simp only [Act.put, tC, tD, tE])
          refine wpAnyH_ready (rs := [25]) (by kernel_rfl) (by simp) ?_
          refine AllReadyH.cons (o := ⟨some 120, .call ⟨.value (.func 15), #[.tmp 118, .tmp 119, .const (.bool true)], #[59, 23, 4]⟩, 47, "law.go:123", #[⟨23, .data⟩, ⟨24, .data⟩, ⟨22, .chain⟩, ⟨22, .guard⟩], some (22, true)⟩) rfl (fun Kq hKq => ?_) AllReadyH.nil
          go_simp
          (refine (plate_any _ _ _).mono ?_; rintro e' w2 ⟨rfl, hb2⟩)
          refine hKq.out _ _ ?_ (fun hHeld => ?_)
          · exact HSK.out _ (hHeld.1.trans (hb2.mono hHeld.1.size))
          clear hKq Kq
          (try simp only [Act.put, tC, tD, tE])
          refine tA 26 ⟨some 121, .binOp .eql 47 (.tmp 120) (.const .nilIface) 47, 4, "law.go:123", #[⟨25, .data⟩, ⟨22, .guard⟩], some (22, true)⟩ ?vvazm22 ?rvazm22
          (try simp only [Act.put, tC, tD, tE])
          refine tA 27 ⟨some 122, .pick (.tmp 117) (.tmp 121) (.const (.bool false)), 4, "law.go:123", #[⟨22, .data⟩, ⟨26, .data⟩], none⟩ ?vvazm23 ?rvazm23
          (try simp only [Act.put, tC, tD, tE])
          refine tA 28 ⟨some 123, .move (.tmp 122), 4, "law.go:123", #[⟨27, .data⟩, ⟨25, .chain⟩], none⟩ ?vvazm24 ?rvazm24
          (try simp only [Act.put, tC, tD, tE])
          refine tA 29 ⟨some 124, .fieldAddr 27 (.tmp 5) 0, 0, "law.go:123", #[⟨28, .guard⟩], some (28, true)⟩ ?vvazm25 ?rvazm25
          (try simp only [Act.put, tC, tD, tE])
          refine tA 30 ⟨some 125, .load 24 (.tmp 124), 24, "law.go:123", #[⟨29, .data⟩, ⟨28, .guard⟩], some (28, true)⟩ ?vvazm26 ?rvazm26
          (try simp only [Act.put, tC, tD, tE])
          refine tA 31 ⟨some 126, .nilCheck (.tmp 125), 0, "law.go:123", #[⟨30, .data⟩, ⟨28, .guard⟩], some (28, true)⟩ ?vvazm27 ?rvazm27
          (try simp only [Act.put, tC, tD, tE])
          refine tA 32 ⟨some 127, .fieldAddr 74 (.tmp 126) 4, 0, "law.go:123", #[⟨31, .data⟩, ⟨28, .guard⟩], some (28, true)⟩ ?vvazm28 ?rvazm28
          (try simp only [Act.put, tC, tD, tE])
          refine tA 33 ⟨some 128, .load 70 (.tmp 127), 70, "law.go:123", #[⟨32, .data⟩, ⟨28, .guard⟩], some (28, true)⟩ ?vvazm29 ?rvazm29
          (try simp only [Act.put, tC, tD, tE])
          refine tA 34 ⟨some 129, .fieldAddr 27 (.tmp 5) 1, 0, "law.go:123", #[⟨28, .guard⟩], some (28, true)⟩ ?vvazm30 ?rvazm30
          (try simp only [Act.put, tC, tD, tE])
          refine tA 35 ⟨some 130, .load 25 (.tmp 129), 25, "law.go:123", #[⟨34, .data⟩, ⟨28, .guard⟩], some (28, true)⟩ ?vvazm31 ?rvazm31
          (try simp only [Act.put, tC, tD, tE])
          refine tA 36 ⟨some 131, .nilCheck (.tmp 130), 0, "law.go:123", #[⟨35, .data⟩, ⟨28, .guard⟩], some (28, true)⟩ ?vvazm32 ?rvazm32
          (try simp only [Act.put, tC, tD, tE])
          refine tA 37 ⟨some 132, .fieldAddr 82 (.tmp 131) 4, 0, "law.go:123", #[⟨36, .data⟩, ⟨28, .guard⟩], some (28, true)⟩ ?vvazm33 ?rvazm33
          (try simp only [Act.put, tC, tD, tE])
          refine tA 38 ⟨some 133, .load 79 (.tmp 132), 79, "law.go:123", #[⟨37, .data⟩, ⟨28, .guard⟩], some (28, true)⟩ ?vvazm34 ?rvazm34
          (try simp only [Act.put, tC, tD, tE])
          refine wpAnyH_ready (rs := [39]) (by kernel_rfl) (by simp) ?_
          refine AllReadyH.cons (o := ⟨some 134, .call ⟨.value (.func 16), #[.tmp 128, .tmp 133], #[70, 79]⟩, 4, "law.go:123", #[⟨33, .data⟩, ⟨38, .data⟩, ⟨28, .chain⟩, ⟨28, .guard⟩], some (28, true)⟩) rfl (fun Kq hKq => ?_) AllReadyH.nil
          go_simp
          (refine ((HSE.out _ (HBW.out _ hHeld.1)).2.2).mono ?_; rintro e' w2 ⟨rfl, hb2⟩)
          refine hKq.out _ _ ?_ (fun hHeld => ?_)
          · exact HSK.out _ (hHeld.1.trans (hb2.mono hHeld.1.size))
          clear hKq Kq
          (try simp only [Act.put, tC, tD, tE])
          refine tA 40 ⟨some 135, .pick (.tmp 123) (.tmp 134) (.const (.bool false)), 4, "law.go:123", #[⟨28, .data⟩, ⟨39, .data⟩], none⟩ ?vvazm35 ?rvazm35
          (try simp only [Act.put, tC, tD, tE])
          refine tA 41 ⟨some 136, .move (.tmp 135), 4, "law.go:123", #[⟨40, .data⟩, ⟨39, .chain⟩], none⟩ ?vvazm36 ?rvazm36
          (try simp only [Act.put, tC, tD, tE])
          refine tA 42 ⟨some 137, .load 27 (.tmp 5), 27, "law.go:123", #[⟨41, .guard⟩], some (41, true)⟩ ?vvazm37 ?rvazm37
          (try simp only [Act.put, tC, tD, tE])
          refine wpAnyH_ready (rs := [43]) (by kernel_rfl) (by simp) ?_
          refine AllReadyH.cons (o := ⟨some 138, .call ⟨.value (.func 17), #[.tmp 137], #[27]⟩, 4, "law.go:123", #[⟨42, .data⟩, ⟨41, .chain⟩, ⟨41, .guard⟩], some (41, true)⟩) rfl (fun Kq hKq => ?_) AllReadyH.nil
          go_simp
          (refine (HALL.out _ (HBW.out _ hHeld.1)).mono ?_; rintro e' w2 ⟨rfl, hb2⟩)
          refine hKq.out _ _ ?_ (fun hHeld => ?_)
          · exact HSK.out _ (hHeld.1.trans (hb2.mono hHeld.1.size))
          clear hKq Kq
          (try simp only [Act.put, tC, tD, tE])
          refine tA 44 ⟨some 139, .pick (.tmp 136) (.tmp 138) (.const (.bool false)), 4, "law.go:123", #[⟨41, .data⟩, ⟨43, .data⟩], none⟩ ?vvazm38 ?rvazm38
          (try simp only [Act.put, tC, tD, tE])
          refine tA 45 ⟨some 140, .move (.tmp 139), 4, "law.go:123", #[⟨44, .data⟩, ⟨43, .chain⟩], none⟩ ?vvazm39 ?rvazm39
          (try simp only [Act.put, tC, tD, tE])
          refine wpAnyH_ready (rs := [46]) (by kernel_rfl) (by simp) ?_
          refine AllReadyH.cons (o := ⟨some 141, .call ⟨.value (.func 18), #[], #[]⟩, 4, "law.go:123", #[⟨45, .chain⟩, ⟨45, .guard⟩], some (45, true)⟩) rfl (fun Kq hKq => ?_) AllReadyH.nil
          go_simp
          (refine (HLV.out _ (HBW.out _ hHeld.1)).mono ?_; rintro e' w2 ⟨rfl, hb2⟩)
          refine hKq.out _ _ ?_ (fun hHeld => ?_)
          · exact HSK.out _ (hHeld.1.trans (hb2.mono hHeld.1.size))
          clear hKq Kq
          (try simp only [Act.put, tC, tD, tE])
          refine tA 47 ⟨some 142, .pick (.tmp 140) (.tmp 141) (.const (.bool false)), 4, "law.go:123", #[⟨45, .data⟩, ⟨46, .data⟩], none⟩ ?vvazm40 ?rvazm40
          (try simp only [Act.put, tC, tD, tE])
          refine tA 48 ⟨some 4, .assign (.tmp 142), 4, "law.go:123", #[⟨47, .data⟩, ⟨46, .chain⟩, ⟨0, .phase⟩, ⟨1, .phase⟩, ⟨2, .phase⟩, ⟨3, .phase⟩, ⟨4, .phase⟩, ⟨5, .phase⟩, ⟨6, .phase⟩, ⟨7, .phase⟩, ⟨8, .phase⟩, ⟨9, .phase⟩, ⟨10, .phase⟩, ⟨11, .phase⟩, ⟨12, .phase⟩, ⟨13, .phase⟩, ⟨14, .phase⟩, ⟨15, .phase⟩, ⟨16, .phase⟩, ⟨17, .phase⟩, ⟨18, .phase⟩, ⟨19, .phase⟩, ⟨20, .phase⟩, ⟨21, .phase⟩, ⟨22, .phase⟩, ⟨23, .phase⟩, ⟨24, .phase⟩, ⟨25, .phase⟩, ⟨26, .phase⟩, ⟨27, .phase⟩, ⟨28, .phase⟩, ⟨29, .phase⟩, ⟨30, .phase⟩, ⟨31, .phase⟩, ⟨32, .phase⟩, ⟨33, .phase⟩, ⟨34, .phase⟩, ⟨35, .phase⟩, ⟨36, .phase⟩, ⟨37, .phase⟩, ⟨38, .phase⟩, ⟨39, .phase⟩, ⟨40, .phase⟩, ⟨41, .phase⟩, ⟨42, .phase⟩, ⟨43, .phase⟩, ⟨44, .phase⟩, ⟨45, .phase⟩, ⟨46, .phase⟩, ⟨47, .phase⟩], none⟩ ?vvazm41 ?rvazm41
          (try simp only [Act.put, tC, tD, tE])
          refine wpAnyH_done (by kernel_rfl) ?_ _
          go_wp2_with fail
          go_ret
          exact ⟨rfl, HBL.out _ (HBW.out _ hHeld.1)⟩
  · have d0 : decide (t < 0) = false := decide_eq_false h0
    by_cases h1 : 64 ≤ t
    · have d1 : decide (64 ≤ t) = true := decide_eq_true h1
      have hvd : t < 0 ∨ 64 ≤ t := .inr h1
      have HNO := Lib.hid (fun W => new_void (t := t) (by omega) (k : Int) 1 0 false .nilIface W)
      have HQ5' : Hid (w5.heap[P + 1 + 1]? = some (.cells #[.pointer none, Pw (P + 1)] 51 (0, 0))) := HQ5
      obtain ⟨sv, hsv⟩ : ∃ sv, sv = Value.slice (some ⟨P + 1 + 1, 0, none⟩) 2 2 := ⟨_, rfl⟩
      have hr5 : Row w5 0 1 sv 2 [.pointer none, Pw (P + 1)] := by
        refine ⟨_, _, hsv, rfl, Nat.le_refl _, by decide, (fun e => by cases e), fun ad e => ?_⟩
        cases e
        refine ⟨P + 1 + 1, 0, rfl, Nat.zero_le _, by have := HZ5.out; omega, fun k u hk => ?_, fun k hk => ?_⟩
        · rw [Nat.zero_add, cell_row HQ5'.out]
          rw [← hk]; rcases k with _ | _ | k <;> rfl
        · rw [Nat.zero_add]
          refine ⟨?_, froz_row HQ5'.out k⟩
          rw [cell_row HQ5'.out]
          rcases (show k = 0 ∨ k = 1 by omega) with rfl | rfl <;> rfl
      rw [← hsv]
      have hown : ∀ g, sv.ownBlock = some g → g = P + 1 + 1 := fun g e => by rw [hsv] at e; injection e with e; exact e.symm
      have HOWN := Lib.hid hown
      have HV7 : Hid (∀ (w6 : World) (B6 : Nat), w5.heap.size ≤ B6 → Below w5.heap.size w5 w6 → w6.heap[B6]? = some (.cells voidC 50 (0, 0)) → Row (w6.alloc (.cells #[Pw B6] 51)) 0 1 sv 2 [.pointer none, Pw (P + 1)] ∧ VP (w6.alloc (.cells #[Pw B6] 51)) (Pw (P + 1)) ∧ VP (w6.alloc (.cells #[Pw B6] 51)) (Pw B6) ∧ (w6.alloc (.cells #[Pw B6] 51)).heap[P]? = some (.cells #[Pw X.wB, Pw Y.wB] 27 (0, 0)) ∧ Below w5.heap.size w5 (w6.alloc (.cells #[Pw B6] 51)) ∧ P + 3 ≤ B6 ∧ P + 3 ≤ (w6.alloc (.cells #[Pw B6] 51)).heap.size) := Lib.hid (fun w6 B6 hge hb6 hq6 => by
        have b7 := below1 w6 (.cells #[Pw B6] 51)
        have z := HZ5.out
        have bb := hb6.trans (b7.mono hb6.size)
        refine ⟨row_new (row_new hr5 hb6) b7, HVJ.out.2.new bb, .inr ⟨_, rfl, (b7.block _ (heap_lt hq6)).trans hq6⟩, (bb.block P (by omega)).trans HP5.out, bb, by omega, by have := bb.size; omega⟩)
      have HR1 := Lib.hid (fun (w6 : World) (B6 : Nat) => S10.rd_one1 w6 (Pw B6) 51)
      clear hr5 hsv hown
      go_upto_region 5 with fail
      go_upto_region 6 with (first
        | (go_at_call 8; refine (HNO.out _).mono ?_; rintro e w6 ⟨B6, rfl, hge, hb6, hq6⟩; have HW7 := Lib.hid (HV7.out w6 B6 hge hb6 hq6); clear hge hb6 hq6)
        | (at_builtin; refine wpList_append_row lay52 rfl _ _ rfl rfl HW7.out.1 (fun u hu => by simp at hu; rcases hu with rfl | rfl <;> rfl) (Nat.zero_le _) 1 rfl (HR1.out w6 B6) rfl (fun u hu => by rw [List.mem_singleton] at hu; rw [hu]; rfl) (by simp) ?_; intro v2 W hr2 ht2 ho2; have HR2 := Lib.hid hr2; have HT2 := Lib.hid ht2; clear hr2 ht2 ho2))
      obtain ⟨Ao, cap, hv2, _, hc1, hc2, hc3, hc4⟩ := HR2.out
      rw [show (2 + 1 : Nat) = 3 from rfl] at hv2
      subst hv2
      have hcap : cap < 9223372036854775808 := by unfold maxLen at hc2; omega
      cases Ao with
      | none => have := hc3 rfl; omega
      | some ad =>
        obtain ⟨g, o, rfl, _, hlt, hl, _⟩ := hc4 ad rfl
        have hnS : ∀ k, k ≠ P + 1 + 1 → ¬ sv.ownBlock = some k := fun k hk e => hk (HOWN.out k e)
        obtain ⟨_, hw71, hw72, hw73, hw74, hw75, hw76⟩ := HW7.out
        have hpw : W.heap[P]? = some (.cells #[Pw X.wB, Pw Y.wB] 27 (0, 0)) := (HT2.out.block P (by omega) (hnS P (by omega))).trans hw73
        have hsz := HT2.out.size
        have hPs : P < W.heap.size := by omega
        have hb2W : Below w2.heap.size w2 W := (HB25.out.trans (hw74.mono HB25.out.size)).trans ⟨HT2.out.os, HT2.out.tape, HT2.out.output, HT2.out.size, fun k hk => HT2.out.block k (by have := HPE.out; omega) (hnS k (by have := HPE.out; omega))⟩
        have hbw := HBG2.out.new hb2W
        have HAT : Hid (∀ k, k < 3 → ∃ v, W.cell? ⟨g, o + k, none⟩ = some v ∧ VP W v ∧ g < W.heap.size) := Lib.hid (by
          intro k hk
          have hv1 : VP W (Pw (P + 1)) := vp_turn hw71 HT2.out (fun B e => hnS B (by injection e with e; injection e with e; injection e with e; omega))
          have hv3 : VP W (Pw B6) := vp_turn hw72 HT2.out (fun B e => hnS B (by injection e with e; injection e with e; injection e with e; omega))
          rcases (show k = 0 ∨ k = 1 ∨ k = 2 by omega) with rfl | rfl | rfl
          · exact ⟨_, hl 0 _ rfl, .inl rfl, hlt⟩
          · exact ⟨_, hl 1 _ rfl, hv1, hlt⟩
          · exact ⟨_, hl 2 _ rfl, hv3, hlt⟩)
        clear hc1 hc2 hc3 hc4 hl hlt hnS hsz hb2W hw71 hw72 hw73 hw74 hw75 hw76
        have HPC : Hid (∀ w', Below W.heap.size W w' → w'.cell? ⟨P, 0, none⟩ = some (Pw X.wB)) := Lib.hid (fun w' b => (cell_row ((b.block P (by omega)).trans hpw) 0))
        have HPP : Hid (∀ w', Below W.heap.size W w' → w'.cell? ⟨P, 0, none⟩ = some (Pw X.wB) ∧ w'.cell? ⟨P, 1, none⟩ = some (Pw Y.wB)) := Lib.hid (fun w' b => ⟨cell_row ((b.block P (by omega)).trans hpw) 0, cell_row ((b.block P (by omega)).trans hpw) 1⟩)
        have HBL : Hid (∀ w', Below W.heap.size W w' → Below w.heap.size w w') := Lib.hid (fun w' b => hbw.bl.trans (b.mono hbw.bl.size))
        have HALL : Hid (∀ w', Below W.heap.size W w' → Calls Tryz.prog 17 #[.agg #[Pw X.wB, Pw Y.wB]] w' fun e w2 => e = .returned (.bool true) ∧ Below w'.heap.size w' w2) := Lib.hid (fun w' b => pair_all (hbw.new b) (by omega) (by omega))
        have HSE : Hid (∀ w', Below W.heap.size W w' → w'.cell? ⟨X.wB, 4, none⟩ = some X.ts ∧ w'.cell? ⟨Y.wB, 4, none⟩ = some Y.ts ∧ Calls Tryz.prog 16 #[X.ts, Y.ts] w' fun e w2 => e = .returned (.bool true) ∧ Below w'.heap.size w' w2) := Lib.hid (fun w' b => ⟨(hbw.new b).c.2.2.1, (hbw.new b).c.2.2.2.2.2, S10.same_sets (hbw.new b).se (hbw.new b).gd (by omega)⟩)
        have HLV : Hid (∀ w', Below W.heap.size W w' → Calls Tryz.prog 18 #[] w' fun e w2 => e = .returned (.bool true) ∧ Below w'.heap.size w' w2) := Lib.hid (fun w' b => lives18 w' (HTB.out.below (HBL.out _ b) HTB.out.1) (Nat.lt_of_lt_of_le HTB.out.1 (HBL.out _ b).size))
        clear hpw hbw hPs
        go_upto_region 7 with fail
        go_loopg [8] (3 + 1) (fun q s6 wx => ∃ i : Nat, i ≤ 3 ∧ q = 3 + 1 - i ∧ s6 = .int .i64 (i : Int) ∧ Below W.heap.size W wx)
        case atStart => exact ⟨0, by omega, rfl, rfl, Below.refl _ _⟩
        case round =>
          obtain ⟨i, hi, rfl, rfl, hb⟩ := hrel
          have HB := Lib.hid hb
          by_cases he : i < 3
          · have d7 : decide (i < 3) = true := decide_eq_true he
            have d7' : (i : Int) < 3 := by omega
            obtain ⟨v, hv, hvj, hA⟩ := HAT.out i he
            have hS0 : ∀ w', Below W.heap.size W w' → Below W.heap.size W w' ∧ w'.cell? ⟨g, o + i, none⟩ = some v ∧ w'.cell? ⟨P, 0, none⟩ = some (Pw X.wB) := fun w' b => ⟨b, (b.cell (p := ⟨g, o + i, none⟩) hA).trans hv, (HPC.out _ b)⟩
            have HS := Lib.hid hS0
            have HOV : Hid (∀ w', Below W.heap.size W w' → Calls Tryz.prog 10 #[v] w' fun e w2 => e = .returned (.bool true) ∧ w' = w2) := Lib.hid (fun w' b => over_vp (hvj.new b))
            have HPV : Hid (∀ w', Below W.heap.size W w' → Calls Tryz.prog 12 #[v] w' fun e w2 => e = .returned (.bool false) ∧ w' = w2) := Lib.hid (fun w' b => parked_vp (hvj.new b))
            have HSV : Hid (∀ w', Below W.heap.size W w' → ∀ x, Calls Tryz.prog 11 #[v, x] w' fun e w2 => e = .returned (.bool true) ∧ w' = w2) := Lib.hid (fun w' b x => step_vp (hvj.new b) x)
            have HGV : Hid (∀ w', Below W.heap.size W w' → ∀ x, Calls Tryz.prog 9 #[v, x] w' fun e w2 => e = .returned (.tuple #[.int .u8 0, .int .u64 0]) ∧ w' = w2) := Lib.hid (fun w' b x => got_vp (hvj.new b) x)
            have HE := Lib.hid he
            clear hb hi hv hvj hA he
            go_upto_region 9 with fail
            have g1 := (hS0 _ HB.out.drew).2.1
            have g2 := (hS0 _ HB.out.drew).2.2
            clear hS0
            go_region_law (go_simp; go_at_call 9; refine (HGV.out _ (HB.out.drew) _).mono ?_; rintro e' w2 ⟨rfl, rfl⟩)
            · clear g1 g2
              go_upto_region 10 with fail
              refine wp_region_held_drew (S := fun w' => Below W.heap.size W w' ∧ w'.cell? ⟨g, o + i, none⟩ = some v ∧ w'.cell? ⟨P, 0, none⟩ = some (Pw X.wB)) (by kernel_rfl) ?_ (fun hHeld => ?_)
              · first | exact HS.out _ HB.out.drew.drew | exact HS.out _ (HB.out.drew)
              refine tA 0 ⟨some 47, .move (.tmp 7), 52, "law.go:116", #[], none⟩ ?vvbpm1 ?rvbpm1
              (try simp only [Act.put, tC, tD, tE])
              refine tA 1 ⟨some 48, .move (.tmp 8), 3, "law.go:116", #[], none⟩ ?vvbpm2 ?rvbpm2
              (try simp only [Act.put, tC, tD, tE])
              refine tA 2 ⟨some 49, .indexAddr 52 (.tmp 47) (.tmp 48), 0, "law.go:116", #[⟨0, .data⟩, ⟨1, .data⟩], none⟩ ?vvbpm3 ?rvbpm3
              (try simp only [Act.put, tC, tD, tE])
              refine tA 3 ⟨some 50, .load 51 (.tmp 49), 51, "law.go:116", #[⟨2, .data⟩], none⟩ ?vvbpm4 ?rvbpm4
              (try simp only [Act.put, tC, tD, tE])
              refine wpAnyH_ready (rs := [4]) (by kernel_rfl) (by simp) ?_
              refine AllReadyH.cons (o := ⟨some 51, .call ⟨.value (.func 10), #[.tmp 50], #[51]⟩, 4, "law.go:116", #[⟨3, .data⟩], none⟩) rfl (fun Kq hKq => ?_) AllReadyH.nil
              go_simp
              (refine (HOV.out _ hHeld.1).mono ?_; rintro e' w2 ⟨rfl, rfl⟩)
              refine hKq.out _ _ ?_ (fun hHeld => ?_)
              · exact hHeld
              clear hKq Kq
              (try simp only [Act.put, tC, tD, tE])
              refine tA 5 ⟨some 52, .unOp .not 4 (.tmp 51), 4, "law.go:116", #[⟨4, .data⟩], none⟩ ?vvbpm5 ?rvbpm5
              (try simp only [Act.put, tC, tD, tE])
              refine tA 6 ⟨some 53, .move (.tmp 52), 4, "law.go:116", #[⟨5, .data⟩, ⟨4, .chain⟩], none⟩ ?vvbpm6 ?rvbpm6
              (try simp only [Act.put, tC, tD, tE])
              refine tA 7 ⟨some 54, .move (.tmp 7), 52, "law.go:116", #[⟨6, .guard⟩], some (6, false)⟩ ?vvbpm7 ?rvbpm7
              (try simp only [Act.put, tC, tD, tE])
              refine tA 8 ⟨some 55, .move (.tmp 8), 3, "law.go:116", #[⟨6, .guard⟩], some (6, false)⟩ ?vvbpm8 ?rvbpm8
              (try simp only [Act.put, tC, tD, tE])
              refine tA 9 ⟨some 56, .indexAddr 52 (.tmp 54) (.tmp 55), 0, "law.go:116", #[⟨7, .data⟩, ⟨8, .data⟩, ⟨6, .guard⟩], some (6, false)⟩ ?vvbpm9 ?rvbpm9
              (try simp only [Act.put, tC, tD, tE])
              refine tA 10 ⟨some 57, .load 51 (.tmp 56), 51, "law.go:116", #[⟨9, .data⟩, ⟨6, .guard⟩], some (6, false)⟩ ?vvbpm10 ?rvbpm10
              (try simp only [Act.put, tC, tD, tE])
              refine tA 11 ⟨some 58, .fieldAddr 27 (.tmp 5) 0, 0, "law.go:116", #[⟨6, .guard⟩], some (6, false)⟩ ?vvbpm11 ?rvbpm11
              (try simp only [Act.put, tC, tD, tE])
              refine tA 12 ⟨some 59, .load 24 (.tmp 58), 24, "law.go:116", #[⟨11, .data⟩, ⟨6, .guard⟩], some (6, false)⟩ ?vvbpm12 ?rvbpm12
              (try simp only [Act.put, tC, tD, tE])
              refine wpAnyH_ready (rs := [13]) (by kernel_rfl) (by simp) ?_
              refine AllReadyH.cons (o := ⟨some 60, .call ⟨.value (.func 11), #[.tmp 57, .tmp 59], #[51, 24]⟩, 4, "law.go:116", #[⟨10, .data⟩, ⟨12, .data⟩, ⟨6, .chain⟩, ⟨6, .guard⟩], some (6, false)⟩) rfl (fun Kq hKq => ?_) AllReadyH.nil
              go_simp
              (refine (HSV.out _ hHeld.1 _).mono ?_; rintro e' w2 ⟨rfl, rfl⟩)
              refine hKq.out _ _ ?_ (fun hHeld => ?_)
              · exact hHeld
              clear hKq Kq
              (try simp only [Act.put, tC, tD, tE])
              refine tA 14 ⟨some 61, .unOp .not 4 (.tmp 60), 4, "law.go:116", #[⟨13, .data⟩, ⟨6, .guard⟩], some (6, false)⟩ ?vvbpm13 ?rvbpm13
              (try simp only [Act.put, tC, tD, tE])
              refine tA 15 ⟨some 62, .pick (.tmp 53) (.const (.bool true)) (.tmp 61), 4, "law.go:116", #[⟨6, .data⟩, ⟨14, .data⟩], none⟩ ?vvbpm14 ?rvbpm14
              (try simp only [Act.put, tC, tD, tE])
              refine tA 16 ⟨some 63, .move (.tmp 62), 4, "law.go:116", #[⟨15, .data⟩, ⟨13, .chain⟩], none⟩ ?vvbpm15 ?rvbpm15
              (try simp only [Act.put, tC, tD, tE])
              refine tA 17 ⟨some 64, .move (.tmp 7), 52, "law.go:116", #[⟨16, .guard⟩], some (16, false)⟩ ?vvbpm16 ?rvbpm16
              (try simp only [Act.put, tC, tD, tE])
              refine tA 18 ⟨some 65, .move (.tmp 8), 3, "law.go:116", #[⟨16, .guard⟩], some (16, false)⟩ ?vvbpm17 ?rvbpm17
              (try simp only [Act.put, tC, tD, tE])
              refine tA 19 ⟨some 66, .indexAddr 52 (.tmp 64) (.tmp 65), 0, "law.go:116", #[⟨17, .data⟩, ⟨18, .data⟩, ⟨16, .guard⟩], some (16, false)⟩ ?vvbpm18 ?rvbpm18
              (try simp only [Act.put, tC, tD, tE])
              refine tA 20 ⟨some 67, .load 51 (.tmp 66), 51, "law.go:116", #[⟨19, .data⟩, ⟨16, .guard⟩], some (16, false)⟩ ?vvbpm19 ?rvbpm19
              (try simp only [Act.put, tC, tD, tE])
              refine wpAnyH_ready (rs := [21]) (by kernel_rfl) (by simp) ?_
              refine AllReadyH.cons (o := ⟨some 68, .call ⟨.value (.func 11), #[.tmp 67, .const (.pointer none)], #[51, 24]⟩, 4, "law.go:116", #[⟨20, .data⟩, ⟨16, .chain⟩, ⟨16, .guard⟩], some (16, false)⟩) rfl (fun Kq hKq => ?_) AllReadyH.nil
              go_simp
              (refine (HSV.out _ hHeld.1 _).mono ?_; rintro e' w2 ⟨rfl, rfl⟩)
              refine hKq.out _ _ ?_ (fun hHeld => ?_)
              · exact hHeld
              clear hKq Kq
              (try simp only [Act.put, tC, tD, tE])
              refine tA 22 ⟨some 69, .unOp .not 4 (.tmp 68), 4, "law.go:116", #[⟨21, .data⟩, ⟨16, .guard⟩], some (16, false)⟩ ?vvbpm20 ?rvbpm20
              (try simp only [Act.put, tC, tD, tE])
              refine tA 23 ⟨some 70, .pick (.tmp 63) (.const (.bool true)) (.tmp 69), 4, "law.go:116", #[⟨16, .data⟩, ⟨22, .data⟩], none⟩ ?vvbpm21 ?rvbpm21
              (try simp only [Act.put, tC, tD, tE])
              refine tA 24 ⟨some 71, .move (.tmp 70), 4, "law.go:116", #[⟨23, .data⟩, ⟨21, .chain⟩], none⟩ ?vvbpm22 ?rvbpm22
              (try simp only [Act.put, tC, tD, tE])
              refine tA 25 ⟨some 72, .move (.tmp 7), 52, "law.go:116", #[⟨24, .guard⟩], some (24, false)⟩ ?vvbpm23 ?rvbpm23
              (try simp only [Act.put, tC, tD, tE])
              refine tA 26 ⟨some 73, .move (.tmp 8), 3, "law.go:116", #[⟨24, .guard⟩], some (24, false)⟩ ?vvbpm24 ?rvbpm24
              (try simp only [Act.put, tC, tD, tE])
              refine tA 27 ⟨some 74, .indexAddr 52 (.tmp 72) (.tmp 73), 0, "law.go:116", #[⟨25, .data⟩, ⟨26, .data⟩, ⟨24, .guard⟩], some (24, false)⟩ ?vvbpm25 ?rvbpm25
              (try simp only [Act.put, tC, tD, tE])
              refine tA 28 ⟨some 75, .load 51 (.tmp 74), 51, "law.go:116", #[⟨27, .data⟩, ⟨24, .guard⟩], some (24, false)⟩ ?vvbpm26 ?rvbpm26
              (try simp only [Act.put, tC, tD, tE])
              refine wpAnyH_ready (rs := [29]) (by kernel_rfl) (by simp) ?_
              refine AllReadyH.cons (o := ⟨some 76, .call ⟨.value (.func 12), #[.tmp 75], #[51]⟩, 4, "law.go:116", #[⟨28, .data⟩, ⟨24, .chain⟩, ⟨24, .guard⟩], some (24, false)⟩) rfl (fun Kq hKq => ?_) AllReadyH.nil
              go_simp
              (refine (HPV.out _ hHeld.1).mono ?_; rintro e' w2 ⟨rfl, rfl⟩)
              refine hKq.out _ _ ?_ (fun hHeld => ?_)
              · exact hHeld
              clear hKq Kq
              (try simp only [Act.put, tC, tD, tE])
              refine tA 30 ⟨some 77, .pick (.tmp 71) (.const (.bool true)) (.tmp 76), 4, "law.go:116", #[⟨24, .data⟩, ⟨29, .data⟩], none⟩ ?vvbpm27 ?rvbpm27
              (try simp only [Act.put, tC, tD, tE])
              refine tA 31 ⟨some 78, .move (.tmp 77), 4, "law.go:116", #[⟨30, .data⟩, ⟨29, .chain⟩], none⟩ ?vvbpm28 ?rvbpm28
              (try simp only [Act.put, tC, tD, tE])
              refine tA 32 ⟨some 79, .move (.tmp 9), 48, "law.go:116", #[⟨31, .guard⟩], some (31, false)⟩ ?vvbpm29 ?rvbpm29
              (try simp only [Act.put, tC, tD, tE])
              refine tA 33 ⟨some 80, .binOp .neq 48 (.tmp 79) (.const (.int .u8 0)) 48, 4, "law.go:116", #[⟨32, .data⟩, ⟨31, .guard⟩], some (31, false)⟩ ?vvbpm30 ?rvbpm30
              (try simp only [Act.put, tC, tD, tE])
              refine tA 34 ⟨some 81, .pick (.tmp 78) (.const (.bool true)) (.tmp 80), 4, "law.go:116", #[⟨31, .data⟩, ⟨33, .data⟩], none⟩ ?vvbpm31 ?rvbpm31
              (try simp only [Act.put, tC, tD, tE])
              refine tA 35 ⟨some 82, .move (.tmp 81), 4, "law.go:116", #[⟨34, .data⟩, ⟨31, .chain⟩], none⟩ ?vvbpm32 ?rvbpm32
              (try simp only [Act.put, tC, tD, tE])
              refine tA 36 ⟨some 83, .move (.tmp 10), 29, "law.go:116", #[⟨35, .guard⟩], some (35, false)⟩ ?vvbpm33 ?rvbpm33
              (try simp only [Act.put, tC, tD, tE])
              refine tA 37 ⟨some 84, .binOp .neq 29 (.tmp 83) (.const (.int .u64 0)) 29, 4, "law.go:116", #[⟨36, .data⟩, ⟨35, .guard⟩], some (35, false)⟩ ?vvbpm34 ?rvbpm34
              (try simp only [Act.put, tC, tD, tE])
              refine tA 38 ⟨some 85, .pick (.tmp 82) (.const (.bool true)) (.tmp 84), 4, "law.go:116", #[⟨35, .data⟩, ⟨37, .data⟩], none⟩ ?vvbpm35 ?rvbpm35
              (try simp only [Act.put, tC, tD, tE])
              refine wpAnyH_done (by kernel_rfl) ?_ _
              go_wp2_with fail
              go_roundg (3 + 1 - (i + 1))
              case measure => have := HE.out; omega
              case rel => exact ⟨i + 1, HE.out, rfl, congrArg (Value.int .i64) (by have h1 := HE.out; first | omega | (unfold wrap64; omega)), hHeld.1⟩
            · clear g1 g2
              go_upto_region 10 with fail
              refine wp_region_held_drew (S := fun w' => Below W.heap.size W w' ∧ w'.cell? ⟨g, o + i, none⟩ = some v ∧ w'.cell? ⟨P, 0, none⟩ = some (Pw X.wB)) (by kernel_rfl) ?_ (fun hHeld => ?_)
              · first | exact HS.out _ HB.out.drew.drew | exact HS.out _ (HB.out.drew)
              refine tA 0 ⟨some 47, .move (.tmp 7), 52, "law.go:116", #[], none⟩ ?vvbqm1 ?rvbqm1
              (try simp only [Act.put, tC, tD, tE])
              refine tA 1 ⟨some 48, .move (.tmp 8), 3, "law.go:116", #[], none⟩ ?vvbqm2 ?rvbqm2
              (try simp only [Act.put, tC, tD, tE])
              refine tA 2 ⟨some 49, .indexAddr 52 (.tmp 47) (.tmp 48), 0, "law.go:116", #[⟨0, .data⟩, ⟨1, .data⟩], none⟩ ?vvbqm3 ?rvbqm3
              (try simp only [Act.put, tC, tD, tE])
              refine tA 3 ⟨some 50, .load 51 (.tmp 49), 51, "law.go:116", #[⟨2, .data⟩], none⟩ ?vvbqm4 ?rvbqm4
              (try simp only [Act.put, tC, tD, tE])
              refine wpAnyH_ready (rs := [4]) (by kernel_rfl) (by simp) ?_
              refine AllReadyH.cons (o := ⟨some 51, .call ⟨.value (.func 10), #[.tmp 50], #[51]⟩, 4, "law.go:116", #[⟨3, .data⟩], none⟩) rfl (fun Kq hKq => ?_) AllReadyH.nil
              go_simp
              (refine (HOV.out _ hHeld.1).mono ?_; rintro e' w2 ⟨rfl, rfl⟩)
              refine hKq.out _ _ ?_ (fun hHeld => ?_)
              · exact hHeld
              clear hKq Kq
              (try simp only [Act.put, tC, tD, tE])
              refine tA 5 ⟨some 52, .unOp .not 4 (.tmp 51), 4, "law.go:116", #[⟨4, .data⟩], none⟩ ?vvbqm5 ?rvbqm5
              (try simp only [Act.put, tC, tD, tE])
              refine tA 6 ⟨some 53, .move (.tmp 52), 4, "law.go:116", #[⟨5, .data⟩, ⟨4, .chain⟩], none⟩ ?vvbqm6 ?rvbqm6
              (try simp only [Act.put, tC, tD, tE])
              refine tA 7 ⟨some 54, .move (.tmp 7), 52, "law.go:116", #[⟨6, .guard⟩], some (6, false)⟩ ?vvbqm7 ?rvbqm7
              (try simp only [Act.put, tC, tD, tE])
              refine tA 8 ⟨some 55, .move (.tmp 8), 3, "law.go:116", #[⟨6, .guard⟩], some (6, false)⟩ ?vvbqm8 ?rvbqm8
              (try simp only [Act.put, tC, tD, tE])
              refine tA 9 ⟨some 56, .indexAddr 52 (.tmp 54) (.tmp 55), 0, "law.go:116", #[⟨7, .data⟩, ⟨8, .data⟩, ⟨6, .guard⟩], some (6, false)⟩ ?vvbqm9 ?rvbqm9
              (try simp only [Act.put, tC, tD, tE])
              refine tA 10 ⟨some 57, .load 51 (.tmp 56), 51, "law.go:116", #[⟨9, .data⟩, ⟨6, .guard⟩], some (6, false)⟩ ?vvbqm10 ?rvbqm10
              (try simp only [Act.put, tC, tD, tE])
              refine tA 11 ⟨some 58, .fieldAddr 27 (.tmp 5) 0, 0, "law.go:116", #[⟨6, .guard⟩], some (6, false)⟩ ?vvbqm11 ?rvbqm11
              (try simp only [Act.put, tC, tD, tE])
              refine tA 12 ⟨some 59, .load 24 (.tmp 58), 24, "law.go:116", #[⟨11, .data⟩, ⟨6, .guard⟩], some (6, false)⟩ ?vvbqm12 ?rvbqm12
              (try simp only [Act.put, tC, tD, tE])
              refine wpAnyH_ready (rs := [13]) (by kernel_rfl) (by simp) ?_
              refine AllReadyH.cons (o := ⟨some 60, .call ⟨.value (.func 11), #[.tmp 57, .tmp 59], #[51, 24]⟩, 4, "law.go:116", #[⟨10, .data⟩, ⟨12, .data⟩, ⟨6, .chain⟩, ⟨6, .guard⟩], some (6, false)⟩) rfl (fun Kq hKq => ?_) AllReadyH.nil
              go_simp
              (refine (HSV.out _ hHeld.1 _).mono ?_; rintro e' w2 ⟨rfl, rfl⟩)
              refine hKq.out _ _ ?_ (fun hHeld => ?_)
              · exact hHeld
              clear hKq Kq
              (try simp only [Act.put, tC, tD, tE])
              refine tA 14 ⟨some 61, .unOp .not 4 (.tmp 60), 4, "law.go:116", #[⟨13, .data⟩, ⟨6, .guard⟩], some (6, false)⟩ ?vvbqm13 ?rvbqm13
              (try simp only [Act.put, tC, tD, tE])
              refine tA 15 ⟨some 62, .pick (.tmp 53) (.const (.bool true)) (.tmp 61), 4, "law.go:116", #[⟨6, .data⟩, ⟨14, .data⟩], none⟩ ?vvbqm14 ?rvbqm14
              (try simp only [Act.put, tC, tD, tE])
              refine tA 16 ⟨some 63, .move (.tmp 62), 4, "law.go:116", #[⟨15, .data⟩, ⟨13, .chain⟩], none⟩ ?vvbqm15 ?rvbqm15
              (try simp only [Act.put, tC, tD, tE])
              refine tA 17 ⟨some 64, .move (.tmp 7), 52, "law.go:116", #[⟨16, .guard⟩], some (16, false)⟩ ?vvbqm16 ?rvbqm16
              (try simp only [Act.put, tC, tD, tE])
              refine tA 18 ⟨some 65, .move (.tmp 8), 3, "law.go:116", #[⟨16, .guard⟩], some (16, false)⟩ ?vvbqm17 ?rvbqm17
              (try simp only [Act.put, tC, tD, tE])
              refine tA 19 ⟨some 66, .indexAddr 52 (.tmp 64) (.tmp 65), 0, "law.go:116", #[⟨17, .data⟩, ⟨18, .data⟩, ⟨16, .guard⟩], some (16, false)⟩ ?vvbqm18 ?rvbqm18
              (try simp only [Act.put, tC, tD, tE])
              refine tA 20 ⟨some 67, .load 51 (.tmp 66), 51, "law.go:116", #[⟨19, .data⟩, ⟨16, .guard⟩], some (16, false)⟩ ?vvbqm19 ?rvbqm19
              (try simp only [Act.put, tC, tD, tE])
              refine wpAnyH_ready (rs := [21]) (by kernel_rfl) (by simp) ?_
              refine AllReadyH.cons (o := ⟨some 68, .call ⟨.value (.func 11), #[.tmp 67, .const (.pointer none)], #[51, 24]⟩, 4, "law.go:116", #[⟨20, .data⟩, ⟨16, .chain⟩, ⟨16, .guard⟩], some (16, false)⟩) rfl (fun Kq hKq => ?_) AllReadyH.nil
              go_simp
              (refine (HSV.out _ hHeld.1 _).mono ?_; rintro e' w2 ⟨rfl, rfl⟩)
              refine hKq.out _ _ ?_ (fun hHeld => ?_)
              · exact hHeld
              clear hKq Kq
              (try simp only [Act.put, tC, tD, tE])
              refine tA 22 ⟨some 69, .unOp .not 4 (.tmp 68), 4, "law.go:116", #[⟨21, .data⟩, ⟨16, .guard⟩], some (16, false)⟩ ?vvbqm20 ?rvbqm20
              (try simp only [Act.put, tC, tD, tE])
              refine tA 23 ⟨some 70, .pick (.tmp 63) (.const (.bool true)) (.tmp 69), 4, "law.go:116", #[⟨16, .data⟩, ⟨22, .data⟩], none⟩ ?vvbqm21 ?rvbqm21
              (try simp only [Act.put, tC, tD, tE])
              refine tA 24 ⟨some 71, .move (.tmp 70), 4, "law.go:116", #[⟨23, .data⟩, ⟨21, .chain⟩], none⟩ ?vvbqm22 ?rvbqm22
              (try simp only [Act.put, tC, tD, tE])
              refine tA 25 ⟨some 72, .move (.tmp 7), 52, "law.go:116", #[⟨24, .guard⟩], some (24, false)⟩ ?vvbqm23 ?rvbqm23
              (try simp only [Act.put, tC, tD, tE])
              refine tA 26 ⟨some 73, .move (.tmp 8), 3, "law.go:116", #[⟨24, .guard⟩], some (24, false)⟩ ?vvbqm24 ?rvbqm24
              (try simp only [Act.put, tC, tD, tE])
              refine tA 27 ⟨some 74, .indexAddr 52 (.tmp 72) (.tmp 73), 0, "law.go:116", #[⟨25, .data⟩, ⟨26, .data⟩, ⟨24, .guard⟩], some (24, false)⟩ ?vvbqm25 ?rvbqm25
              (try simp only [Act.put, tC, tD, tE])
              refine tA 28 ⟨some 75, .load 51 (.tmp 74), 51, "law.go:116", #[⟨27, .data⟩, ⟨24, .guard⟩], some (24, false)⟩ ?vvbqm26 ?rvbqm26
              (try simp only [Act.put, tC, tD, tE])
              refine wpAnyH_ready (rs := [29]) (by kernel_rfl) (by simp) ?_
              refine AllReadyH.cons (o := ⟨some 76, .call ⟨.value (.func 12), #[.tmp 75], #[51]⟩, 4, "law.go:116", #[⟨28, .data⟩, ⟨24, .chain⟩, ⟨24, .guard⟩], some (24, false)⟩) rfl (fun Kq hKq => ?_) AllReadyH.nil
              go_simp
              (refine (HPV.out _ hHeld.1).mono ?_; rintro e' w2 ⟨rfl, rfl⟩)
              refine hKq.out _ _ ?_ (fun hHeld => ?_)
              · exact hHeld
              clear hKq Kq
              (try simp only [Act.put, tC, tD, tE])
              refine tA 30 ⟨some 77, .pick (.tmp 71) (.const (.bool true)) (.tmp 76), 4, "law.go:116", #[⟨24, .data⟩, ⟨29, .data⟩], none⟩ ?vvbqm27 ?rvbqm27
              (try simp only [Act.put, tC, tD, tE])
              refine tA 31 ⟨some 78, .move (.tmp 77), 4, "law.go:116", #[⟨30, .data⟩, ⟨29, .chain⟩], none⟩ ?vvbqm28 ?rvbqm28
              (try simp only [Act.put, tC, tD, tE])
              refine tA 32 ⟨some 79, .move (.tmp 9), 48, "law.go:116", #[⟨31, .guard⟩], some (31, false)⟩ ?vvbqm29 ?rvbqm29
              (try simp only [Act.put, tC, tD, tE])
              refine tA 33 ⟨some 80, .binOp .neq 48 (.tmp 79) (.const (.int .u8 0)) 48, 4, "law.go:116", #[⟨32, .data⟩, ⟨31, .guard⟩], some (31, false)⟩ ?vvbqm30 ?rvbqm30
              (try simp only [Act.put, tC, tD, tE])
              refine tA 34 ⟨some 81, .pick (.tmp 78) (.const (.bool true)) (.tmp 80), 4, "law.go:116", #[⟨31, .data⟩, ⟨33, .data⟩], none⟩ ?vvbqm31 ?rvbqm31
              (try simp only [Act.put, tC, tD, tE])
              refine tA 35 ⟨some 82, .move (.tmp 81), 4, "law.go:116", #[⟨34, .data⟩, ⟨31, .chain⟩], none⟩ ?vvbqm32 ?rvbqm32
              (try simp only [Act.put, tC, tD, tE])
              refine tA 36 ⟨some 83, .move (.tmp 10), 29, "law.go:116", #[⟨35, .guard⟩], some (35, false)⟩ ?vvbqm33 ?rvbqm33
              (try simp only [Act.put, tC, tD, tE])
              refine tA 37 ⟨some 84, .binOp .neq 29 (.tmp 83) (.const (.int .u64 0)) 29, 4, "law.go:116", #[⟨36, .data⟩, ⟨35, .guard⟩], some (35, false)⟩ ?vvbqm34 ?rvbqm34
              (try simp only [Act.put, tC, tD, tE])
              refine tA 38 ⟨some 85, .pick (.tmp 82) (.const (.bool true)) (.tmp 84), 4, "law.go:116", #[⟨35, .data⟩, ⟨37, .data⟩], none⟩ ?vvbqm35 ?rvbqm35
              (try simp only [Act.put, tC, tD, tE])
              refine wpAnyH_done (by kernel_rfl) ?_ _
              go_wp2_with fail
              go_roundg (3 + 1 - (i + 1))
              case measure => have := HE.out; omega
              case rel => exact ⟨i + 1, HE.out, rfl, congrArg (Value.int .i64) (by have h1 := HE.out; first | omega | (unfold wrap64; omega)), hHeld.1⟩
          · obtain rfl : i = 3 := by omega
            clear hb hi he
            go_upto_region 12 with fail
            go_upto_region 13 with (go_at_call 8; refine (HNJ.out _).mono ?_; rintro e w9 ⟨B9, U9, q9, rfl, hn9, hb9⟩; have HF := Lib.hid hn9; have HB9 := Lib.hid (HB.out.trans (hb9.mono HB.out.size)); clear hn9 hb9)
            have HG9 := Lib.hid (got_by (n := 0) (cell_row HF.out 10) (by omega) (.pointer none))
            go_upto_region 14 with (go_at_call 9; refine HG9.out.mono ?_; rintro e w10 ⟨rfl, rfl⟩)
            clear HG9
            go_upto_region 15 with fail
            have HST : Hid (∀ w', Below w9.heap.size w9 w' → Calls Tryz.prog 11 #[Pw B9, .pointer none] w' fun e w2 => e = .returned (.bool false) ∧ w' = w2) := Lib.hid (fun w' b => step_now ⟨_, _, cell_row ((b.block _ (heap_lt HF.out)).trans HF.out) 8⟩)
            have HOV : Hid (∀ w', Below w9.heap.size w9 w' → Calls Tryz.prog 10 #[Pw B9] w' fun e w2 => e = .returned (.bool false) ∧ w' = w2) := Lib.hid (fun w' b => over_no ⟨_, _, cell_row ((b.block _ (heap_lt HF.out)).trans HF.out) 8⟩)
            have HSK : Hid (∀ w', Below w9.heap.size w9 w' → Below w9.heap.size w9 w' ∧ w'.cell? ⟨P, 0, none⟩ = some (Pw X.wB) ∧ w'.cell? ⟨P, 1, none⟩ = some (Pw Y.wB) ∧ w'.cell? ⟨X.wB, 4, none⟩ = some X.ts ∧ w'.cell? ⟨Y.wB, 4, none⟩ = some Y.ts) := Lib.hid (fun w' b => by
              have bW := HB9.out.trans (b.mono HB9.out.size)
              exact ⟨b, (HPP.out _ bW).1, (HPP.out _ bW).2, (HSE.out _ bW).1, (HSE.out _ bW).2.1⟩)
            have HBW : Hid (∀ w', Below w9.heap.size w9 w' → Below W.heap.size W w') := Lib.hid (fun w' b => HB9.out.trans (b.mono HB9.out.size))
            refine wp_region_held_drew (S := fun w' => Below w9.heap.size w9 w' ∧ w'.cell? ⟨P, 0, none⟩ = some (Pw X.wB) ∧ w'.cell? ⟨P, 1, none⟩ = some (Pw Y.wB) ∧ w'.cell? ⟨X.wB, 4, none⟩ = some X.ts ∧ w'.cell? ⟨Y.wB, 4, none⟩ = some Y.ts) (by kernel_rfl) ?_ (fun hHeld => ?_)
            · exact HSK.out _ ((below1 _ _).trans (Below.refl _ _).drew)
            refine tA 0 ⟨some 95, .move (.tmp 11), 51, "law.go:123", #[], none⟩ ?vvbzm1 ?rvbzm1
            (try simp only [Act.put, tC, tD, tE])
            refine wpAnyH_ready (rs := [1]) (by kernel_rfl) (by simp) ?_
            refine AllReadyH.cons (o := ⟨some 96, .call ⟨.value (.func 11), #[.tmp 95, .const (.pointer none)], #[51, 24]⟩, 4, "law.go:123", #[⟨0, .data⟩], none⟩) rfl (fun Kq hKq => ?_) AllReadyH.nil
            go_simp
            (refine (HST.out _ hHeld.1).mono ?_; rintro e' w2 ⟨rfl, rfl⟩)
            refine hKq.out _ _ ?_ (fun hHeld => ?_)
            · exact hHeld
            clear hKq Kq
            (try simp only [Act.put, tC, tD, tE])
            refine tA 2 ⟨some 97, .unOp .not 4 (.tmp 96), 4, "law.go:123", #[⟨1, .data⟩], none⟩ ?vvbzm2 ?rvbzm2
            (try simp only [Act.put, tC, tD, tE])
            refine tA 3 ⟨some 98, .move (.tmp 97), 4, "law.go:123", #[⟨2, .data⟩, ⟨1, .chain⟩], none⟩ ?vvbzm3 ?rvbzm3
            (try simp only [Act.put, tC, tD, tE])
            refine tA 4 ⟨some 99, .move (.tmp 11), 51, "law.go:123", #[⟨3, .guard⟩], some (3, true)⟩ ?vvbzm4 ?rvbzm4
            (try simp only [Act.put, tC, tD, tE])
            refine wpAnyH_ready (rs := [5]) (by kernel_rfl) (by simp) ?_
            refine AllReadyH.cons (o := ⟨some 100, .call ⟨.value (.func 10), #[.tmp 99], #[51]⟩, 4, "law.go:123", #[⟨4, .data⟩, ⟨3, .chain⟩, ⟨3, .guard⟩], some (3, true)⟩) rfl (fun Kq hKq => ?_) AllReadyH.nil
            go_simp
            (refine (HOV.out _ hHeld.1).mono ?_; rintro e' w2 ⟨rfl, rfl⟩)
            refine hKq.out _ _ ?_ (fun hHeld => ?_)
            · exact hHeld
            clear hKq Kq
            (try simp only [Act.put, tC, tD, tE])
            refine tA 6 ⟨some 101, .unOp .not 4 (.tmp 100), 4, "law.go:123", #[⟨5, .data⟩, ⟨3, .guard⟩], some (3, true)⟩ ?vvbzm5 ?rvbzm5
            (try simp only [Act.put, tC, tD, tE])
            refine tA 7 ⟨some 102, .pick (.tmp 98) (.tmp 101) (.const (.bool false)), 4, "law.go:123", #[⟨3, .data⟩, ⟨6, .data⟩], none⟩ ?vvbzm6 ?rvbzm6
            (try simp only [Act.put, tC, tD, tE])
            refine tA 8 ⟨some 103, .move (.tmp 102), 4, "law.go:123", #[⟨7, .data⟩, ⟨5, .chain⟩], none⟩ ?vvbzm7 ?rvbzm7
            (try simp only [Act.put, tC, tD, tE])
            refine tA 9 ⟨some 104, .move (.tmp 12), 48, "law.go:123", #[⟨8, .guard⟩], some (8, true)⟩ ?vvbzm8 ?rvbzm8
            (try simp only [Act.put, tC, tD, tE])
            refine tA 10 ⟨some 105, .binOp .eql 48 (.tmp 104) (.const (.int .u8 0)) 48, 4, "law.go:123", #[⟨9, .data⟩, ⟨8, .guard⟩], some (8, true)⟩ ?vvbzm9 ?rvbzm9
            (try simp only [Act.put, tC, tD, tE])
            refine tA 11 ⟨some 106, .pick (.tmp 103) (.tmp 105) (.const (.bool false)), 4, "law.go:123", #[⟨8, .data⟩, ⟨10, .data⟩], none⟩ ?vvbzm10 ?rvbzm10
            (try simp only [Act.put, tC, tD, tE])
            refine tA 12 ⟨some 107, .move (.tmp 106), 4, "law.go:123", #[⟨11, .data⟩, ⟨8, .chain⟩], none⟩ ?vvbzm11 ?rvbzm11
            (try simp only [Act.put, tC, tD, tE])
            refine tA 13 ⟨some 108, .load 59 (.tmp 14), 59, "law.go:123", #[⟨12, .guard⟩], some (12, true)⟩ ?vvbzm12 ?rvbzm12
            (try simp only [Act.put, tC, tD, tE])
            refine wpAnyH_ready (rs := [14]) (by kernel_rfl) (by simp) ?_
            refine AllReadyH.cons (o := ⟨some 109, .call ⟨.value (.func 13), #[.tmp 108], #[59]⟩, 61, "law.go:123", #[⟨13, .data⟩, ⟨12, .chain⟩, ⟨12, .guard⟩], some (12, true)⟩) rfl (fun Kq hKq => ?_) AllReadyH.nil
            go_simp
            (refine (pval_any _).mono ?_; rintro e' w2 ⟨rfl, hb2⟩)
            refine hKq.out _ _ ?_ (fun hHeld => ?_)
            · exact HSK.out _ (hHeld.1.trans (hb2.mono hHeld.1.size))
            clear hKq Kq
            (try simp only [Act.put, tC, tD, tE])
            refine tA 15 ⟨some 110, .binOp .eql 61 (.tmp 109) (.const .nilIface) 61, 4, "law.go:123", #[⟨14, .data⟩, ⟨12, .guard⟩], some (12, true)⟩ ?vvbzm13 ?rvbzm13
            (try simp only [Act.put, tC, tD, tE])
            refine tA 16 ⟨some 111, .pick (.tmp 107) (.tmp 110) (.const (.bool false)), 4, "law.go:123", #[⟨12, .data⟩, ⟨15, .data⟩], none⟩ ?vvbzm14 ?rvbzm14
            (try simp only [Act.put, tC, tD, tE])
            refine tA 17 ⟨some 112, .move (.tmp 111), 4, "law.go:123", #[⟨16, .data⟩, ⟨14, .chain⟩], none⟩ ?vvbzm15 ?rvbzm15
            (try simp only [Act.put, tC, tD, tE])
            refine tA 18 ⟨some 113, .load 59 (.tmp 14), 59, "law.go:123", #[⟨17, .guard⟩], some (17, true)⟩ ?vvbzm16 ?rvbzm16
            (try simp only [Act.put, tC, tD, tE])
            refine wpAnyH_ready (rs := [19]) (by kernel_rfl) (by simp) ?_
            refine AllReadyH.cons (o := ⟨some 114, .call ⟨.value (.func 14), #[.tmp 113], #[59]⟩, 47, "law.go:123", #[⟨18, .data⟩, ⟨17, .chain⟩, ⟨17, .guard⟩], some (17, true)⟩) rfl (fun Kq hKq => ?_) AllReadyH.nil
            go_simp
            (refine (pbef_any _).mono ?_; rintro e' w2 ⟨rfl, hb2⟩)
            refine hKq.out _ _ ?_ (fun hHeld => ?_)
            · exact HSK.out _ (hHeld.1.trans (hb2.mono hHeld.1.size))
            clear hKq Kq
            (try simp only [Act.put, tC, tD, tE])
            refine tA 20 ⟨some 115, .binOp .eql 47 (.tmp 114) (.const .nilIface) 47, 4, "law.go:123", #[⟨19, .data⟩, ⟨17, .guard⟩], some (17, true)⟩ ?vvbzm17 ?rvbzm17
            (try simp only [Act.put, tC, tD, tE])
            refine tA 21 ⟨some 116, .pick (.tmp 112) (.tmp 115) (.const (.bool false)), 4, "law.go:123", #[⟨17, .data⟩, ⟨20, .data⟩], none⟩ ?vvbzm18 ?rvbzm18
            (try simp only [Act.put, tC, tD, tE])
            refine tA 22 ⟨some 117, .move (.tmp 116), 4, "law.go:123", #[⟨21, .data⟩, ⟨19, .chain⟩], none⟩ ?vvbzm19 ?rvbzm19
            (try simp only [Act.put, tC, tD, tE])
            refine tA 23 ⟨some 118, .load 59 (.tmp 14), 59, "law.go:123", #[⟨22, .guard⟩], some (22, true)⟩ ?vvbzm20 ?rvbzm20
            (try simp only [Act.put, tC, tD, tE])
            refine tA 24 ⟨some 119, .move (.tmp 1), 23, "law.go:123", #[⟨22, .guard⟩], some (22, true)⟩ ?vvbzm21 ?rvbzm21
            (try simp only [Act.put, tC, tD, tE])
            refine wpAnyH_ready (rs := [25]) (by kernel_rfl) (by simp) ?_
            refine AllReadyH.cons (o := ⟨some 120, .call ⟨.value (.func 15), #[.tmp 118, .tmp 119, .const (.bool true)], #[59, 23, 4]⟩, 47, "law.go:123", #[⟨23, .data⟩, ⟨24, .data⟩, ⟨22, .chain⟩, ⟨22, .guard⟩], some (22, true)⟩) rfl (fun Kq hKq => ?_) AllReadyH.nil
            go_simp
            (refine (plate_any _ _ _).mono ?_; rintro e' w2 ⟨rfl, hb2⟩)
            refine hKq.out _ _ ?_ (fun hHeld => ?_)
            · exact HSK.out _ (hHeld.1.trans (hb2.mono hHeld.1.size))
            clear hKq Kq
            (try simp only [Act.put, tC, tD, tE])
            refine tA 26 ⟨some 121, .binOp .eql 47 (.tmp 120) (.const .nilIface) 47, 4, "law.go:123", #[⟨25, .data⟩, ⟨22, .guard⟩], some (22, true)⟩ ?vvbzm22 ?rvbzm22
            (try simp only [Act.put, tC, tD, tE])
            refine tA 27 ⟨some 122, .pick (.tmp 117) (.tmp 121) (.const (.bool false)), 4, "law.go:123", #[⟨22, .data⟩, ⟨26, .data⟩], none⟩ ?vvbzm23 ?rvbzm23
            (try simp only [Act.put, tC, tD, tE])
            refine tA 28 ⟨some 123, .move (.tmp 122), 4, "law.go:123", #[⟨27, .data⟩, ⟨25, .chain⟩], none⟩ ?vvbzm24 ?rvbzm24
            (try simp only [Act.put, tC, tD, tE])
            refine tA 29 ⟨some 124, .fieldAddr 27 (.tmp 5) 0, 0, "law.go:123", #[⟨28, .guard⟩], some (28, true)⟩ ?vvbzm25 ?rvbzm25
            (try simp only [Act.put, tC, tD, tE])
            refine tA 30 ⟨some 125, .load 24 (.tmp 124), 24, "law.go:123", #[⟨29, .data⟩, ⟨28, .guard⟩], some (28, true)⟩ ?vvbzm26 ?rvbzm26
            (try simp only [Act.put, tC, tD, tE])
            refine tA 31 ⟨some 126, .nilCheck (.tmp 125), 0, "law.go:123", #[⟨30, .data⟩, ⟨28, .guard⟩], some (28, true)⟩ ?vvbzm27 ?rvbzm27
            (try simp only [Act.put, tC, tD, tE])
            refine tA 32 ⟨some 127, .fieldAddr 74 (.tmp 126) 4, 0, "law.go:123", #[⟨31, .data⟩, ⟨28, .guard⟩], some (28, true)⟩ ?vvbzm28 ?rvbzm28
            (try simp only [Act.put, tC, tD, tE])
            refine tA 33 ⟨some 128, .load 70 (.tmp 127), 70, "law.go:123", #[⟨32, .data⟩, ⟨28, .guard⟩], some (28, true)⟩ ?vvbzm29 ?rvbzm29
            (try simp only [Act.put, tC, tD, tE])
            refine tA 34 ⟨some 129, .fieldAddr 27 (.tmp 5) 1, 0, "law.go:123", #[⟨28, .guard⟩], some (28, true)⟩ ?vvbzm30 ?rvbzm30
            (try simp only [Act.put, tC, tD, tE])
            refine tA 35 ⟨some 130, .load 25 (.tmp 129), 25, "law.go:123", #[⟨34, .data⟩, ⟨28, .guard⟩], some (28, true)⟩ ?vvbzm31 ?rvbzm31
            (try simp only [Act.put, tC, tD, tE])
            refine tA 36 ⟨some 131, .nilCheck (.tmp 130), 0, "law.go:123", #[⟨35, .data⟩, ⟨28, .guard⟩], some (28, true)⟩ ?vvbzm32 ?rvbzm32
            (try simp only [Act.put, tC, tD, tE])
            refine tA 37 ⟨some 132, .fieldAddr 82 (.tmp 131) 4, 0, "law.go:123", #[⟨36, .data⟩, ⟨28, .guard⟩], some (28, true)⟩ ?vvbzm33 ?rvbzm33
            (try simp only [Act.put, tC, tD, tE])
            refine tA 38 ⟨some 133, .load 79 (.tmp 132), 79, "law.go:123", #[⟨37, .data⟩, ⟨28, .guard⟩], some (28, true)⟩ ?vvbzm34 ?rvbzm34
            (try simp only [Act.put, tC, tD, tE])
            refine wpAnyH_ready (rs := [39]) (by kernel_rfl) (by simp) ?_
            refine AllReadyH.cons (o := ⟨some 134, .call ⟨.value (.func 16), #[.tmp 128, .tmp 133], #[70, 79]⟩, 4, "law.go:123", #[⟨33, .data⟩, ⟨38, .data⟩, ⟨28, .chain⟩, ⟨28, .guard⟩], some (28, true)⟩) rfl (fun Kq hKq => ?_) AllReadyH.nil
            go_simp
            (refine ((HSE.out _ (HBW.out _ hHeld.1)).2.2).mono ?_; rintro e' w2 ⟨rfl, hb2⟩)
            refine hKq.out _ _ ?_ (fun hHeld => ?_)
            · exact HSK.out _ (hHeld.1.trans (hb2.mono hHeld.1.size))
            clear hKq Kq
            (try simp only [Act.put, tC, tD, tE])
            refine tA 40 ⟨some 135, .pick (.tmp 123) (.tmp 134) (.const (.bool false)), 4, "law.go:123", #[⟨28, .data⟩, ⟨39, .data⟩], none⟩ ?vvbzm35 ?rvbzm35
            (try simp only [Act.put, tC, tD, tE])
            refine tA 41 ⟨some 136, .move (.tmp 135), 4, "law.go:123", #[⟨40, .data⟩, ⟨39, .chain⟩], none⟩ ?vvbzm36 ?rvbzm36
            (try simp only [Act.put, tC, tD, tE])
            refine tA 42 ⟨some 137, .load 27 (.tmp 5), 27, "law.go:123", #[⟨41, .guard⟩], some (41, true)⟩ ?vvbzm37 ?rvbzm37
            (try simp only [Act.put, tC, tD, tE])
            refine wpAnyH_ready (rs := [43]) (by kernel_rfl) (by simp) ?_
            refine AllReadyH.cons (o := ⟨some 138, .call ⟨.value (.func 17), #[.tmp 137], #[27]⟩, 4, "law.go:123", #[⟨42, .data⟩, ⟨41, .chain⟩, ⟨41, .guard⟩], some (41, true)⟩) rfl (fun Kq hKq => ?_) AllReadyH.nil
            go_simp
            (refine (HALL.out _ (HBW.out _ hHeld.1)).mono ?_; rintro e' w2 ⟨rfl, hb2⟩)
            refine hKq.out _ _ ?_ (fun hHeld => ?_)
            · exact HSK.out _ (hHeld.1.trans (hb2.mono hHeld.1.size))
            clear hKq Kq
            (try simp only [Act.put, tC, tD, tE])
            refine tA 44 ⟨some 139, .pick (.tmp 136) (.tmp 138) (.const (.bool false)), 4, "law.go:123", #[⟨41, .data⟩, ⟨43, .data⟩], none⟩ ?vvbzm38 ?rvbzm38
            (try simp only [Act.put, tC, tD, tE])
            refine tA 45 ⟨some 140, .move (.tmp 139), 4, "law.go:123", #[⟨44, .data⟩, ⟨43, .chain⟩], none⟩ ?vvbzm39 ?rvbzm39
            (try simp only [Act.put, tC, tD, tE])
            refine wpAnyH_ready (rs := [46]) (by kernel_rfl) (by simp) ?_
            refine AllReadyH.cons (o := ⟨some 141, .call ⟨.value (.func 18), #[], #[]⟩, 4, "law.go:123", #[⟨45, .chain⟩, ⟨45, .guard⟩], some (45, true)⟩) rfl (fun Kq hKq => ?_) AllReadyH.nil
            go_simp
            (refine (HLV.out _ (HBW.out _ hHeld.1)).mono ?_; rintro e' w2 ⟨rfl, hb2⟩)
            refine hKq.out _ _ ?_ (fun hHeld => ?_)
            · exact HSK.out _ (hHeld.1.trans (hb2.mono hHeld.1.size))
            clear hKq Kq
            (try simp only [Act.put, tC, tD, tE])
            refine tA 47 ⟨some 142, .pick (.tmp 140) (.tmp 141) (.const (.bool false)), 4, "law.go:123", #[⟨45, .data⟩, ⟨46, .data⟩], none⟩ ?vvbzm40 ?rvbzm40
            (try simp only [Act.put, tC, tD, tE])
            refine tA 48 ⟨some 4, .assign (.tmp 142), 4, "law.go:123", #[⟨47, .data⟩, ⟨46, .chain⟩, ⟨0, .phase⟩, ⟨1, .phase⟩, ⟨2, .phase⟩, ⟨3, .phase⟩, ⟨4, .phase⟩, ⟨5, .phase⟩, ⟨6, .phase⟩, ⟨7, .phase⟩, ⟨8, .phase⟩, ⟨9, .phase⟩, ⟨10, .phase⟩, ⟨11, .phase⟩, ⟨12, .phase⟩, ⟨13, .phase⟩, ⟨14, .phase⟩, ⟨15, .phase⟩, ⟨16, .phase⟩, ⟨17, .phase⟩, ⟨18, .phase⟩, ⟨19, .phase⟩, ⟨20, .phase⟩, ⟨21, .phase⟩, ⟨22, .phase⟩, ⟨23, .phase⟩, ⟨24, .phase⟩, ⟨25, .phase⟩, ⟨26, .phase⟩, ⟨27, .phase⟩, ⟨28, .phase⟩, ⟨29, .phase⟩, ⟨30, .phase⟩, ⟨31, .phase⟩, ⟨32, .phase⟩, ⟨33, .phase⟩, ⟨34, .phase⟩, ⟨35, .phase⟩, ⟨36, .phase⟩, ⟨37, .phase⟩, ⟨38, .phase⟩, ⟨39, .phase⟩, ⟨40, .phase⟩, ⟨41, .phase⟩, ⟨42, .phase⟩, ⟨43, .phase⟩, ⟨44, .phase⟩, ⟨45, .phase⟩, ⟨46, .phase⟩, ⟨47, .phase⟩], none⟩ ?vvbzm41 ?rvbzm41
            (try simp only [Act.put, tC, tD, tE])
            refine wpAnyH_done (by kernel_rfl) ?_ _
            go_wp2_with fail
            go_ret
            exact ⟨rfl, HBL.out _ (HBW.out _ hHeld.1)⟩
    · have d1 : decide (64 ≤ t) = false := decide_eq_false h1
      clear h0 h1
      obtain ⟨W, hWe⟩ : ∃ W, W = w5 := ⟨_, rfl⟩
      have hpw : W.heap[P]? = some (.cells #[Pw X.wB, Pw Y.wB] 27 (0, 0)) := by rw [hWe]; exact HP5.out
      have hbw := HBG5.out
      rw [← hWe] at hbw ⊢
      have hPs : P < W.heap.size := by rw [hWe, HZ5.out]; omega
      have HAT : Hid (∀ k, k < 2 → ∃ v, W.cell? ⟨P + 2, k, none⟩ = some v ∧ VP W v ∧ P + 2 < W.heap.size) := Lib.hid (by
        rw [hWe]
        intro k hk
        have hl : P + 2 < w5.heap.size := by rw [HZ5.out]; omega
        rcases (show k = 0 ∨ k = 1 by omega) with rfl | rfl
        · exact ⟨.pointer none, by rw [cell_row HQ5.out]; rfl, HVJ.out.1, hl⟩
        · exact ⟨Pw (P + 1), by rw [cell_row HQ5.out]; rfl, HVJ.out.2, hl⟩)
      clear hWe
      have HPC : Hid (∀ w', Below W.heap.size W w' → w'.cell? ⟨P, 0, none⟩ = some (Pw X.wB)) := Lib.hid (fun w' b => (cell_row ((b.block P (by omega)).trans hpw) 0))
      have HPP : Hid (∀ w', Below W.heap.size W w' → w'.cell? ⟨P, 0, none⟩ = some (Pw X.wB) ∧ w'.cell? ⟨P, 1, none⟩ = some (Pw Y.wB)) := Lib.hid (fun w' b => ⟨cell_row ((b.block P (by omega)).trans hpw) 0, cell_row ((b.block P (by omega)).trans hpw) 1⟩)
      have HBL : Hid (∀ w', Below W.heap.size W w' → Below w.heap.size w w') := Lib.hid (fun w' b => hbw.bl.trans (b.mono hbw.bl.size))
      have HALL : Hid (∀ w', Below W.heap.size W w' → Calls Tryz.prog 17 #[.agg #[Pw X.wB, Pw Y.wB]] w' fun e w2 => e = .returned (.bool true) ∧ Below w'.heap.size w' w2) := Lib.hid (fun w' b => pair_all (hbw.new b) (by omega) (by omega))
      have HSE : Hid (∀ w', Below W.heap.size W w' → w'.cell? ⟨X.wB, 4, none⟩ = some X.ts ∧ w'.cell? ⟨Y.wB, 4, none⟩ = some Y.ts ∧ Calls Tryz.prog 16 #[X.ts, Y.ts] w' fun e w2 => e = .returned (.bool true) ∧ Below w'.heap.size w' w2) := Lib.hid (fun w' b => ⟨(hbw.new b).c.2.2.1, (hbw.new b).c.2.2.2.2.2, S10.same_sets (hbw.new b).se (hbw.new b).gd (by omega)⟩)
      have HLV : Hid (∀ w', Below W.heap.size W w' → Calls Tryz.prog 18 #[] w' fun e w2 => e = .returned (.bool true) ∧ Below w'.heap.size w' w2) := Lib.hid (fun w' b => lives18 w' (HTB.out.below (HBL.out _ b) HTB.out.1) (Nat.lt_of_lt_of_le HTB.out.1 (HBL.out _ b).size))
      clear hpw hbw hPs
      go_upto_region 7 with fail
      go_loopg [8] (2 + 1) (fun q s6 wx => ∃ i : Nat, i ≤ 2 ∧ q = 2 + 1 - i ∧ s6 = .int .i64 (i : Int) ∧ Below W.heap.size W wx)
      case atStart => exact ⟨0, by omega, rfl, rfl, Below.refl _ _⟩
      case round =>
        obtain ⟨i, hi, rfl, rfl, hb⟩ := hrel
        have HB := Lib.hid hb
        by_cases he : i < 2
        · have d7 : decide (i < 2) = true := decide_eq_true he
          have d7' : (i : Int) < 2 := by omega
          obtain ⟨v, hv, hvj, hA⟩ := HAT.out i he
          have hS0 : ∀ w', Below W.heap.size W w' → Below W.heap.size W w' ∧ w'.cell? ⟨P + 2, i, none⟩ = some v ∧ w'.cell? ⟨P, 0, none⟩ = some (Pw X.wB) := fun w' b => ⟨b, (b.cell (p := ⟨P + 2, i, none⟩) hA).trans hv, (HPC.out _ b)⟩
          have HS := Lib.hid hS0
          have HOV : Hid (∀ w', Below W.heap.size W w' → Calls Tryz.prog 10 #[v] w' fun e w2 => e = .returned (.bool true) ∧ w' = w2) := Lib.hid (fun w' b => over_vp (hvj.new b))
          have HPV : Hid (∀ w', Below W.heap.size W w' → Calls Tryz.prog 12 #[v] w' fun e w2 => e = .returned (.bool false) ∧ w' = w2) := Lib.hid (fun w' b => parked_vp (hvj.new b))
          have HSV : Hid (∀ w', Below W.heap.size W w' → ∀ x, Calls Tryz.prog 11 #[v, x] w' fun e w2 => e = .returned (.bool true) ∧ w' = w2) := Lib.hid (fun w' b x => step_vp (hvj.new b) x)
          have HGV : Hid (∀ w', Below W.heap.size W w' → ∀ x, Calls Tryz.prog 9 #[v, x] w' fun e w2 => e = .returned (.tuple #[.int .u8 0, .int .u64 0]) ∧ w' = w2) := Lib.hid (fun w' b x => got_vp (hvj.new b) x)
          have HE := Lib.hid he
          clear hb hi hv hvj hA he
          go_upto_region 9 with fail
          have g1 := (hS0 _ HB.out.drew).2.1
          have g2 := (hS0 _ HB.out.drew).2.2
          clear hS0
          go_region_law (go_simp; go_at_call 9; refine (HGV.out _ (HB.out.drew) _).mono ?_; rintro e' w2 ⟨rfl, rfl⟩)
          · clear g1 g2
            go_upto_region 10 with fail
            refine wp_region_held_drew (S := fun w' => Below W.heap.size W w' ∧ w'.cell? ⟨P + 2, i, none⟩ = some v ∧ w'.cell? ⟨P, 0, none⟩ = some (Pw X.wB)) (by kernel_rfl) ?_ (fun hHeld => ?_)
            · first | exact HS.out _ HB.out.drew.drew | exact HS.out _ (HB.out.drew)
            refine tA 0 ⟨some 47, .move (.tmp 7), 52, "law.go:116", #[], none⟩ ?vv2pm1 ?rv2pm1
            (try simp only [Act.put, tC, tD, tE])
            refine tA 1 ⟨some 48, .move (.tmp 8), 3, "law.go:116", #[], none⟩ ?vv2pm2 ?rv2pm2
            (try simp only [Act.put, tC, tD, tE])
            refine tA 2 ⟨some 49, .indexAddr 52 (.tmp 47) (.tmp 48), 0, "law.go:116", #[⟨0, .data⟩, ⟨1, .data⟩], none⟩ ?vv2pm3 ?rv2pm3
            (try simp only [Act.put, tC, tD, tE])
            refine tA 3 ⟨some 50, .load 51 (.tmp 49), 51, "law.go:116", #[⟨2, .data⟩], none⟩ ?vv2pm4 ?rv2pm4
            (try simp only [Act.put, tC, tD, tE])
            refine wpAnyH_ready (rs := [4]) (by kernel_rfl) (by simp) ?_
            refine AllReadyH.cons (o := ⟨some 51, .call ⟨.value (.func 10), #[.tmp 50], #[51]⟩, 4, "law.go:116", #[⟨3, .data⟩], none⟩) rfl (fun Kq hKq => ?_) AllReadyH.nil
            go_simp
            (refine (HOV.out _ hHeld.1).mono ?_; rintro e' w2 ⟨rfl, rfl⟩)
            refine hKq.out _ _ ?_ (fun hHeld => ?_)
            · exact hHeld
            clear hKq Kq
            (try simp only [Act.put, tC, tD, tE])
            refine tA 5 ⟨some 52, .unOp .not 4 (.tmp 51), 4, "law.go:116", #[⟨4, .data⟩], none⟩ ?vv2pm5 ?rv2pm5
            (try simp only [Act.put, tC, tD, tE])
            refine tA 6 ⟨some 53, .move (.tmp 52), 4, "law.go:116", #[⟨5, .data⟩, ⟨4, .chain⟩], none⟩ ?vv2pm6 ?rv2pm6
            (try simp only [Act.put, tC, tD, tE])
            refine tA 7 ⟨some 54, .move (.tmp 7), 52, "law.go:116", #[⟨6, .guard⟩], some (6, false)⟩ ?vv2pm7 ?rv2pm7
            (try simp only [Act.put, tC, tD, tE])
            refine tA 8 ⟨some 55, .move (.tmp 8), 3, "law.go:116", #[⟨6, .guard⟩], some (6, false)⟩ ?vv2pm8 ?rv2pm8
            (try simp only [Act.put, tC, tD, tE])
            refine tA 9 ⟨some 56, .indexAddr 52 (.tmp 54) (.tmp 55), 0, "law.go:116", #[⟨7, .data⟩, ⟨8, .data⟩, ⟨6, .guard⟩], some (6, false)⟩ ?vv2pm9 ?rv2pm9
            (try simp only [Act.put, tC, tD, tE])
            refine tA 10 ⟨some 57, .load 51 (.tmp 56), 51, "law.go:116", #[⟨9, .data⟩, ⟨6, .guard⟩], some (6, false)⟩ ?vv2pm10 ?rv2pm10
            (try simp only [Act.put, tC, tD, tE])
            refine tA 11 ⟨some 58, .fieldAddr 27 (.tmp 5) 0, 0, "law.go:116", #[⟨6, .guard⟩], some (6, false)⟩ ?vv2pm11 ?rv2pm11
            (try simp only [Act.put, tC, tD, tE])
            refine tA 12 ⟨some 59, .load 24 (.tmp 58), 24, "law.go:116", #[⟨11, .data⟩, ⟨6, .guard⟩], some (6, false)⟩ ?vv2pm12 ?rv2pm12
            (try simp only [Act.put, tC, tD, tE])
            refine wpAnyH_ready (rs := [13]) (by kernel_rfl) (by simp) ?_
            refine AllReadyH.cons (o := ⟨some 60, .call ⟨.value (.func 11), #[.tmp 57, .tmp 59], #[51, 24]⟩, 4, "law.go:116", #[⟨10, .data⟩, ⟨12, .data⟩, ⟨6, .chain⟩, ⟨6, .guard⟩], some (6, false)⟩) rfl (fun Kq hKq => ?_) AllReadyH.nil
            go_simp
            (refine (HSV.out _ hHeld.1 _).mono ?_; rintro e' w2 ⟨rfl, rfl⟩)
            refine hKq.out _ _ ?_ (fun hHeld => ?_)
            · exact hHeld
            clear hKq Kq
            (try simp only [Act.put, tC, tD, tE])
            refine tA 14 ⟨some 61, .unOp .not 4 (.tmp 60), 4, "law.go:116", #[⟨13, .data⟩, ⟨6, .guard⟩], some (6, false)⟩ ?vv2pm13 ?rv2pm13
            (try simp only [Act.put, tC, tD, tE])
            refine tA 15 ⟨some 62, .pick (.tmp 53) (.const (.bool true)) (.tmp 61), 4, "law.go:116", #[⟨6, .data⟩, ⟨14, .data⟩], none⟩ ?vv2pm14 ?rv2pm14
            (try simp only [Act.put, tC, tD, tE])
            refine tA 16 ⟨some 63, .move (.tmp 62), 4, "law.go:116", #[⟨15, .data⟩, ⟨13, .chain⟩], none⟩ ?vv2pm15 ?rv2pm15
            (try simp only [Act.put, tC, tD, tE])
            refine tA 17 ⟨some 64, .move (.tmp 7), 52, "law.go:116", #[⟨16, .guard⟩], some (16, false)⟩ ?vv2pm16 ?rv2pm16
            (try simp only [Act.put, tC, tD, tE])
            refine tA 18 ⟨some 65, .move (.tmp 8), 3, "law.go:116", #[⟨16, .guard⟩], some (16, false)⟩ ?vv2pm17 ?rv2pm17
            (try simp only [Act.put, tC, tD, tE])
            refine tA 19 ⟨some 66, .indexAddr 52 (.tmp 64) (.tmp 65), 0, "law.go:116", #[⟨17, .data⟩, ⟨18, .data⟩, ⟨16, .guard⟩], some (16, false)⟩ ?vv2pm18 ?rv2pm18
            (try simp only [Act.put, tC, tD, tE])
            refine tA 20 ⟨some 67, .load 51 (.tmp 66), 51, "law.go:116", #[⟨19, .data⟩, ⟨16, .guard⟩], some (16, false)⟩ ?vv2pm19 ?rv2pm19
            (try simp only [Act.put, tC, tD, tE])
            refine wpAnyH_ready (rs := [21]) (by kernel_rfl) (by simp) ?_
            refine AllReadyH.cons (o := ⟨some 68, .call ⟨.value (.func 11), #[.tmp 67, .const (.pointer none)], #[51, 24]⟩, 4, "law.go:116", #[⟨20, .data⟩, ⟨16, .chain⟩, ⟨16, .guard⟩], some (16, false)⟩) rfl (fun Kq hKq => ?_) AllReadyH.nil
            go_simp
            (refine (HSV.out _ hHeld.1 _).mono ?_; rintro e' w2 ⟨rfl, rfl⟩)
            refine hKq.out _ _ ?_ (fun hHeld => ?_)
            · exact hHeld
            clear hKq Kq
            (try simp only [Act.put, tC, tD, tE])
            refine tA 22 ⟨some 69, .unOp .not 4 (.tmp 68), 4, "law.go:116", #[⟨21, .data⟩, ⟨16, .guard⟩], some (16, false)⟩ ?vv2pm20 ?rv2pm20
            (try simp only [Act.put, tC, tD, tE])
            refine tA 23 ⟨some 70, .pick (.tmp 63) (.const (.bool true)) (.tmp 69), 4, "law.go:116", #[⟨16, .data⟩, ⟨22, .data⟩], none⟩ ?vv2pm21 ?rv2pm21
            (try simp only [Act.put, tC, tD, tE])
            refine tA 24 ⟨some 71, .move (.tmp 70), 4, "law.go:116", #[⟨23, .data⟩, ⟨21, .chain⟩], none⟩ ?vv2pm22 ?rv2pm22
            (try simp only [Act.put, tC, tD, tE])
            refine tA 25 ⟨some 72, .move (.tmp 7), 52, "law.go:116", #[⟨24, .guard⟩], some (24, false)⟩ ?vv2pm23 ?rv2pm23
            (try simp only [Act.put, tC, tD, tE])
            refine tA 26 ⟨some 73, .move (.tmp 8), 3, "law.go:116", #[⟨24, .guard⟩], some (24, false)⟩ ?vv2pm24 ?rv2pm24
            (try simp only [Act.put, tC, tD, tE])
            refine tA 27 ⟨some 74, .indexAddr 52 (.tmp 72) (.tmp 73), 0, "law.go:116", #[⟨25, .data⟩, ⟨26, .data⟩, ⟨24, .guard⟩], some (24, false)⟩ ?vv2pm25 ?rv2pm25
            (try simp only [Act.put, tC, tD, tE])
            refine tA 28 ⟨some 75, .load 51 (.tmp 74), 51, "law.go:116", #[⟨27, .data⟩, ⟨24, .guard⟩], some (24, false)⟩ ?vv2pm26 ?rv2pm26
            (try simp only [Act.put, tC, tD, tE])
            refine wpAnyH_ready (rs := [29]) (by kernel_rfl) (by simp) ?_
            refine AllReadyH.cons (o := ⟨some 76, .call ⟨.value (.func 12), #[.tmp 75], #[51]⟩, 4, "law.go:116", #[⟨28, .data⟩, ⟨24, .chain⟩, ⟨24, .guard⟩], some (24, false)⟩) rfl (fun Kq hKq => ?_) AllReadyH.nil
            go_simp
            (refine (HPV.out _ hHeld.1).mono ?_; rintro e' w2 ⟨rfl, rfl⟩)
            refine hKq.out _ _ ?_ (fun hHeld => ?_)
            · exact hHeld
            clear hKq Kq
            (try simp only [Act.put, tC, tD, tE])
            refine tA 30 ⟨some 77, .pick (.tmp 71) (.const (.bool true)) (.tmp 76), 4, "law.go:116", #[⟨24, .data⟩, ⟨29, .data⟩], none⟩ ?vv2pm27 ?rv2pm27
            (try simp only [Act.put, tC, tD, tE])
            refine tA 31 ⟨some 78, .move (.tmp 77), 4, "law.go:116", #[⟨30, .data⟩, ⟨29, .chain⟩], none⟩ ?vv2pm28 ?rv2pm28
            (try simp only [Act.put, tC, tD, tE])
            refine tA 32 ⟨some 79, .move (.tmp 9), 48, "law.go:116", #[⟨31, .guard⟩], some (31, false)⟩ ?vv2pm29 ?rv2pm29
            (try simp only [Act.put, tC, tD, tE])
            refine tA 33 ⟨some 80, .binOp .neq 48 (.tmp 79) (.const (.int .u8 0)) 48, 4, "law.go:116", #[⟨32, .data⟩, ⟨31, .guard⟩], some (31, false)⟩ ?vv2pm30 ?rv2pm30
            (try simp only [Act.put, tC, tD, tE])
            refine tA 34 ⟨some 81, .pick (.tmp 78) (.const (.bool true)) (.tmp 80), 4, "law.go:116", #[⟨31, .data⟩, ⟨33, .data⟩], none⟩ ?vv2pm31 ?rv2pm31
            (try simp only [Act.put, tC, tD, tE])
            refine tA 35 ⟨some 82, .move (.tmp 81), 4, "law.go:116", #[⟨34, .data⟩, ⟨31, .chain⟩], none⟩ ?vv2pm32 ?rv2pm32
            (try simp only [Act.put, tC, tD, tE])
            refine tA 36 ⟨some 83, .move (.tmp 10), 29, "law.go:116", #[⟨35, .guard⟩], some (35, false)⟩ ?vv2pm33 ?rv2pm33
            (try simp only [Act.put, tC, tD, tE])
            refine tA 37 ⟨some 84, .binOp .neq 29 (.tmp 83) (.const (.int .u64 0)) 29, 4, "law.go:116", #[⟨36, .data⟩, ⟨35, .guard⟩], some (35, false)⟩ ?vv2pm34 ?rv2pm34
            (try simp only [Act.put, tC, tD, tE])
            refine tA 38 ⟨some 85, .pick (.tmp 82) (.const (.bool true)) (.tmp 84), 4, "law.go:116", #[⟨35, .data⟩, ⟨37, .data⟩], none⟩ ?vv2pm35 ?rv2pm35
            (try simp only [Act.put, tC, tD, tE])
            refine wpAnyH_done (by kernel_rfl) ?_ _
            go_wp2_with fail
            go_roundg (2 + 1 - (i + 1))
            case measure => have := HE.out; omega
            case rel => exact ⟨i + 1, HE.out, rfl, congrArg (Value.int .i64) (by have h1 := HE.out; first | omega | (unfold wrap64; omega)), hHeld.1⟩
          · clear g1 g2
            go_upto_region 10 with fail
            refine wp_region_held_drew (S := fun w' => Below W.heap.size W w' ∧ w'.cell? ⟨P + 2, i, none⟩ = some v ∧ w'.cell? ⟨P, 0, none⟩ = some (Pw X.wB)) (by kernel_rfl) ?_ (fun hHeld => ?_)
            · first | exact HS.out _ HB.out.drew.drew | exact HS.out _ (HB.out.drew)
            refine tA 0 ⟨some 47, .move (.tmp 7), 52, "law.go:116", #[], none⟩ ?vv2qm1 ?rv2qm1
            (try simp only [Act.put, tC, tD, tE])
            refine tA 1 ⟨some 48, .move (.tmp 8), 3, "law.go:116", #[], none⟩ ?vv2qm2 ?rv2qm2
            (try simp only [Act.put, tC, tD, tE])
            refine tA 2 ⟨some 49, .indexAddr 52 (.tmp 47) (.tmp 48), 0, "law.go:116", #[⟨0, .data⟩, ⟨1, .data⟩], none⟩ ?vv2qm3 ?rv2qm3
            (try simp only [Act.put, tC, tD, tE])
            refine tA 3 ⟨some 50, .load 51 (.tmp 49), 51, "law.go:116", #[⟨2, .data⟩], none⟩ ?vv2qm4 ?rv2qm4
            (try simp only [Act.put, tC, tD, tE])
            refine wpAnyH_ready (rs := [4]) (by kernel_rfl) (by simp) ?_
            refine AllReadyH.cons (o := ⟨some 51, .call ⟨.value (.func 10), #[.tmp 50], #[51]⟩, 4, "law.go:116", #[⟨3, .data⟩], none⟩) rfl (fun Kq hKq => ?_) AllReadyH.nil
            go_simp
            (refine (HOV.out _ hHeld.1).mono ?_; rintro e' w2 ⟨rfl, rfl⟩)
            refine hKq.out _ _ ?_ (fun hHeld => ?_)
            · exact hHeld
            clear hKq Kq
            (try simp only [Act.put, tC, tD, tE])
            refine tA 5 ⟨some 52, .unOp .not 4 (.tmp 51), 4, "law.go:116", #[⟨4, .data⟩], none⟩ ?vv2qm5 ?rv2qm5
            (try simp only [Act.put, tC, tD, tE])
            refine tA 6 ⟨some 53, .move (.tmp 52), 4, "law.go:116", #[⟨5, .data⟩, ⟨4, .chain⟩], none⟩ ?vv2qm6 ?rv2qm6
            (try simp only [Act.put, tC, tD, tE])
            refine tA 7 ⟨some 54, .move (.tmp 7), 52, "law.go:116", #[⟨6, .guard⟩], some (6, false)⟩ ?vv2qm7 ?rv2qm7
            (try simp only [Act.put, tC, tD, tE])
            refine tA 8 ⟨some 55, .move (.tmp 8), 3, "law.go:116", #[⟨6, .guard⟩], some (6, false)⟩ ?vv2qm8 ?rv2qm8
            (try simp only [Act.put, tC, tD, tE])
            refine tA 9 ⟨some 56, .indexAddr 52 (.tmp 54) (.tmp 55), 0, "law.go:116", #[⟨7, .data⟩, ⟨8, .data⟩, ⟨6, .guard⟩], some (6, false)⟩ ?vv2qm9 ?rv2qm9
            (try simp only [Act.put, tC, tD, tE])
            refine tA 10 ⟨some 57, .load 51 (.tmp 56), 51, "law.go:116", #[⟨9, .data⟩, ⟨6, .guard⟩], some (6, false)⟩ ?vv2qm10 ?rv2qm10
            (try simp only [Act.put, tC, tD, tE])
            refine tA 11 ⟨some 58, .fieldAddr 27 (.tmp 5) 0, 0, "law.go:116", #[⟨6, .guard⟩], some (6, false)⟩ ?vv2qm11 ?rv2qm11
            (try simp only [Act.put, tC, tD, tE])
            refine tA 12 ⟨some 59, .load 24 (.tmp 58), 24, "law.go:116", #[⟨11, .data⟩, ⟨6, .guard⟩], some (6, false)⟩ ?vv2qm12 ?rv2qm12
            (try simp only [Act.put, tC, tD, tE])
            refine wpAnyH_ready (rs := [13]) (by kernel_rfl) (by simp) ?_
            refine AllReadyH.cons (o := ⟨some 60, .call ⟨.value (.func 11), #[.tmp 57, .tmp 59], #[51, 24]⟩, 4, "law.go:116", #[⟨10, .data⟩, ⟨12, .data⟩, ⟨6, .chain⟩, ⟨6, .guard⟩], some (6, false)⟩) rfl (fun Kq hKq => ?_) AllReadyH.nil
            go_simp
            (refine (HSV.out _ hHeld.1 _).mono ?_; rintro e' w2 ⟨rfl, rfl⟩)
            refine hKq.out _ _ ?_ (fun hHeld => ?_)
            · exact hHeld
            clear hKq Kq
            (try simp only [Act.put, tC, tD, tE])
            refine tA 14 ⟨some 61, .unOp .not 4 (.tmp 60), 4, "law.go:116", #[⟨13, .data⟩, ⟨6, .guard⟩], some (6, false)⟩ ?vv2qm13 ?rv2qm13
            (try simp only [Act.put, tC, tD, tE])
            refine tA 15 ⟨some 62, .pick (.tmp 53) (.const (.bool true)) (.tmp 61), 4, "law.go:116", #[⟨6, .data⟩, ⟨14, .data⟩], none⟩ ?vv2qm14 ?rv2qm14
            (try simp only [Act.put, tC, tD, tE])
            refine tA 16 ⟨some 63, .move (.tmp 62), 4, "law.go:116", #[⟨15, .data⟩, ⟨13, .chain⟩], none⟩ ?vv2qm15 ?rv2qm15
            (try simp only [Act.put, tC, tD, tE])
            refine tA 17 ⟨some 64, .move (.tmp 7), 52, "law.go:116", #[⟨16, .guard⟩], some (16, false)⟩ ?vv2qm16 ?rv2qm16
            (try simp only [Act.put, tC, tD, tE])
            refine tA 18 ⟨some 65, .move (.tmp 8), 3, "law.go:116", #[⟨16, .guard⟩], some (16, false)⟩ ?vv2qm17 ?rv2qm17
            (try simp only [Act.put, tC, tD, tE])
            refine tA 19 ⟨some 66, .indexAddr 52 (.tmp 64) (.tmp 65), 0, "law.go:116", #[⟨17, .data⟩, ⟨18, .data⟩, ⟨16, .guard⟩], some (16, false)⟩ ?vv2qm18 ?rv2qm18
            (try simp only [Act.put, tC, tD, tE])
            refine tA 20 ⟨some 67, .load 51 (.tmp 66), 51, "law.go:116", #[⟨19, .data⟩, ⟨16, .guard⟩], some (16, false)⟩ ?vv2qm19 ?rv2qm19
            (try simp only [Act.put, tC, tD, tE])
            refine wpAnyH_ready (rs := [21]) (by kernel_rfl) (by simp) ?_
            refine AllReadyH.cons (o := ⟨some 68, .call ⟨.value (.func 11), #[.tmp 67, .const (.pointer none)], #[51, 24]⟩, 4, "law.go:116", #[⟨20, .data⟩, ⟨16, .chain⟩, ⟨16, .guard⟩], some (16, false)⟩) rfl (fun Kq hKq => ?_) AllReadyH.nil
            go_simp
            (refine (HSV.out _ hHeld.1 _).mono ?_; rintro e' w2 ⟨rfl, rfl⟩)
            refine hKq.out _ _ ?_ (fun hHeld => ?_)
            · exact hHeld
            clear hKq Kq
            (try simp only [Act.put, tC, tD, tE])
            refine tA 22 ⟨some 69, .unOp .not 4 (.tmp 68), 4, "law.go:116", #[⟨21, .data⟩, ⟨16, .guard⟩], some (16, false)⟩ ?vv2qm20 ?rv2qm20
            (try simp only [Act.put, tC, tD, tE])
            refine tA 23 ⟨some 70, .pick (.tmp 63) (.const (.bool true)) (.tmp 69), 4, "law.go:116", #[⟨16, .data⟩, ⟨22, .data⟩], none⟩ ?vv2qm21 ?rv2qm21
            (try simp only [Act.put, tC, tD, tE])
            refine tA 24 ⟨some 71, .move (.tmp 70), 4, "law.go:116", #[⟨23, .data⟩, ⟨21, .chain⟩], none⟩ ?vv2qm22 ?rv2qm22
            (try simp only [Act.put, tC, tD, tE])
            refine tA 25 ⟨some 72, .move (.tmp 7), 52, "law.go:116", #[⟨24, .guard⟩], some (24, false)⟩ ?vv2qm23 ?rv2qm23
            (try simp only [Act.put, tC, tD, tE])
            refine tA 26 ⟨some 73, .move (.tmp 8), 3, "law.go:116", #[⟨24, .guard⟩], some (24, false)⟩ ?vv2qm24 ?rv2qm24
            (try simp only [Act.put, tC, tD, tE])
            refine tA 27 ⟨some 74, .indexAddr 52 (.tmp 72) (.tmp 73), 0, "law.go:116", #[⟨25, .data⟩, ⟨26, .data⟩, ⟨24, .guard⟩], some (24, false)⟩ ?vv2qm25 ?rv2qm25
            (try simp only [Act.put, tC, tD, tE])
            refine tA 28 ⟨some 75, .load 51 (.tmp 74), 51, "law.go:116", #[⟨27, .data⟩, ⟨24, .guard⟩], some (24, false)⟩ ?vv2qm26 ?rv2qm26
            (try simp only [Act.put, tC, tD, tE])
            refine wpAnyH_ready (rs := [29]) (by kernel_rfl) (by simp) ?_
            refine AllReadyH.cons (o := ⟨some 76, .call ⟨.value (.func 12), #[.tmp 75], #[51]⟩, 4, "law.go:116", #[⟨28, .data⟩, ⟨24, .chain⟩, ⟨24, .guard⟩], some (24, false)⟩) rfl (fun Kq hKq => ?_) AllReadyH.nil
            go_simp
            (refine (HPV.out _ hHeld.1).mono ?_; rintro e' w2 ⟨rfl, rfl⟩)
            refine hKq.out _ _ ?_ (fun hHeld => ?_)
            · exact hHeld
            clear hKq Kq
            (try simp only [Act.put, tC, tD, tE])
            refine tA 30 ⟨some 77, .pick (.tmp 71) (.const (.bool true)) (.tmp 76), 4, "law.go:116", #[⟨24, .data⟩, ⟨29, .data⟩], none⟩ ?vv2qm27 ?rv2qm27
            (try simp only [Act.put, tC, tD, tE])
            refine tA 31 ⟨some 78, .move (.tmp 77), 4, "law.go:116", #[⟨30, .data⟩, ⟨29, .chain⟩], none⟩ ?vv2qm28 ?rv2qm28
            (try simp only [Act.put, tC, tD, tE])
            refine tA 32 ⟨some 79, .move (.tmp 9), 48, "law.go:116", #[⟨31, .guard⟩], some (31, false)⟩ ?vv2qm29 ?rv2qm29
            (try simp only [Act.put, tC, tD, tE])
            refine tA 33 ⟨some 80, .binOp .neq 48 (.tmp 79) (.const (.int .u8 0)) 48, 4, "law.go:116", #[⟨32, .data⟩, ⟨31, .guard⟩], some (31, false)⟩ ?vv2qm30 ?rv2qm30
            (try simp only [Act.put, tC, tD, tE])
            refine tA 34 ⟨some 81, .pick (.tmp 78) (.const (.bool true)) (.tmp 80), 4, "law.go:116", #[⟨31, .data⟩, ⟨33, .data⟩], none⟩ ?vv2qm31 ?rv2qm31
            (try simp only [Act.put, tC, tD, tE])
            refine tA 35 ⟨some 82, .move (.tmp 81), 4, "law.go:116", #[⟨34, .data⟩, ⟨31, .chain⟩], none⟩ ?vv2qm32 ?rv2qm32
            (try simp only [Act.put, tC, tD, tE])
            refine tA 36 ⟨some 83, .move (.tmp 10), 29, "law.go:116", #[⟨35, .guard⟩], some (35, false)⟩ ?vv2qm33 ?rv2qm33
            (try simp only [Act.put, tC, tD, tE])
            refine tA 37 ⟨some 84, .binOp .neq 29 (.tmp 83) (.const (.int .u64 0)) 29, 4, "law.go:116", #[⟨36, .data⟩, ⟨35, .guard⟩], some (35, false)⟩ ?vv2qm34 ?rv2qm34
            (try simp only [Act.put, tC, tD, tE])
            refine tA 38 ⟨some 85, .pick (.tmp 82) (.const (.bool true)) (.tmp 84), 4, "law.go:116", #[⟨35, .data⟩, ⟨37, .data⟩], none⟩ ?vv2qm35 ?rv2qm35
            (try simp only [Act.put, tC, tD, tE])
            refine wpAnyH_done (by kernel_rfl) ?_ _
            go_wp2_with fail
            go_roundg (2 + 1 - (i + 1))
            case measure => have := HE.out; omega
            case rel => exact ⟨i + 1, HE.out, rfl, congrArg (Value.int .i64) (by have h1 := HE.out; first | omega | (unfold wrap64; omega)), hHeld.1⟩
        · obtain rfl : i = 2 := by omega
          clear hb hi he
          go_upto_region 12 with fail
          go_upto_region 13 with (go_at_call 8; refine (HNJ.out _).mono ?_; rintro e w9 ⟨B9, U9, q9, rfl, hn9, hb9⟩; have HF := Lib.hid hn9; have HB9 := Lib.hid (HB.out.trans (hb9.mono HB.out.size)); clear hn9 hb9)
          have HG9 := Lib.hid (got_by (n := 0) (cell_row HF.out 10) (by omega) (.pointer none))
          go_upto_region 14 with (go_at_call 9; refine HG9.out.mono ?_; rintro e w10 ⟨rfl, rfl⟩)
          clear HG9
          go_upto_region 15 with fail
          have HST : Hid (∀ w', Below w9.heap.size w9 w' → Calls Tryz.prog 11 #[Pw B9, .pointer none] w' fun e w2 => e = .returned (.bool false) ∧ w' = w2) := Lib.hid (fun w' b => step_now ⟨_, _, cell_row ((b.block _ (heap_lt HF.out)).trans HF.out) 8⟩)
          have HOV : Hid (∀ w', Below w9.heap.size w9 w' → Calls Tryz.prog 10 #[Pw B9] w' fun e w2 => e = .returned (.bool false) ∧ w' = w2) := Lib.hid (fun w' b => over_no ⟨_, _, cell_row ((b.block _ (heap_lt HF.out)).trans HF.out) 8⟩)
          have HSK : Hid (∀ w', Below w9.heap.size w9 w' → Below w9.heap.size w9 w' ∧ w'.cell? ⟨P, 0, none⟩ = some (Pw X.wB) ∧ w'.cell? ⟨P, 1, none⟩ = some (Pw Y.wB) ∧ w'.cell? ⟨X.wB, 4, none⟩ = some X.ts ∧ w'.cell? ⟨Y.wB, 4, none⟩ = some Y.ts) := Lib.hid (fun w' b => by
            have bW := HB9.out.trans (b.mono HB9.out.size)
            exact ⟨b, (HPP.out _ bW).1, (HPP.out _ bW).2, (HSE.out _ bW).1, (HSE.out _ bW).2.1⟩)
          have HBW : Hid (∀ w', Below w9.heap.size w9 w' → Below W.heap.size W w') := Lib.hid (fun w' b => HB9.out.trans (b.mono HB9.out.size))
          refine wp_region_held_drew (S := fun w' => Below w9.heap.size w9 w' ∧ w'.cell? ⟨P, 0, none⟩ = some (Pw X.wB) ∧ w'.cell? ⟨P, 1, none⟩ = some (Pw Y.wB) ∧ w'.cell? ⟨X.wB, 4, none⟩ = some X.ts ∧ w'.cell? ⟨Y.wB, 4, none⟩ = some Y.ts) (by kernel_rfl) ?_ (fun hHeld => ?_)
          · exact HSK.out _ ((below1 _ _).trans (Below.refl _ _).drew)
          refine tA 0 ⟨some 95, .move (.tmp 11), 51, "law.go:123", #[], none⟩ ?vv2zm1 ?rv2zm1
          (try simp only [Act.put, tC, tD, tE])
          refine wpAnyH_ready (rs := [1]) (by kernel_rfl) (by simp) ?_
          refine AllReadyH.cons (o := ⟨some 96, .call ⟨.value (.func 11), #[.tmp 95, .const (.pointer none)], #[51, 24]⟩, 4, "law.go:123", #[⟨0, .data⟩], none⟩) rfl (fun Kq hKq => ?_) AllReadyH.nil
          go_simp
          (refine (HST.out _ hHeld.1).mono ?_; rintro e' w2 ⟨rfl, rfl⟩)
          refine hKq.out _ _ ?_ (fun hHeld => ?_)
          · exact hHeld
          clear hKq Kq
          (try simp only [Act.put, tC, tD, tE])
          refine tA 2 ⟨some 97, .unOp .not 4 (.tmp 96), 4, "law.go:123", #[⟨1, .data⟩], none⟩ ?vv2zm2 ?rv2zm2
          (try simp only [Act.put, tC, tD, tE])
          refine tA 3 ⟨some 98, .move (.tmp 97), 4, "law.go:123", #[⟨2, .data⟩, ⟨1, .chain⟩], none⟩ ?vv2zm3 ?rv2zm3
          (try simp only [Act.put, tC, tD, tE])
          refine tA 4 ⟨some 99, .move (.tmp 11), 51, "law.go:123", #[⟨3, .guard⟩], some (3, true)⟩ ?vv2zm4 ?rv2zm4
          (try simp only [Act.put, tC, tD, tE])
          refine wpAnyH_ready (rs := [5]) (by kernel_rfl) (by simp) ?_
          refine AllReadyH.cons (o := ⟨some 100, .call ⟨.value (.func 10), #[.tmp 99], #[51]⟩, 4, "law.go:123", #[⟨4, .data⟩, ⟨3, .chain⟩, ⟨3, .guard⟩], some (3, true)⟩) rfl (fun Kq hKq => ?_) AllReadyH.nil
          go_simp
          (refine (HOV.out _ hHeld.1).mono ?_; rintro e' w2 ⟨rfl, rfl⟩)
          refine hKq.out _ _ ?_ (fun hHeld => ?_)
          · exact hHeld
          clear hKq Kq
          (try simp only [Act.put, tC, tD, tE])
          refine tA 6 ⟨some 101, .unOp .not 4 (.tmp 100), 4, "law.go:123", #[⟨5, .data⟩, ⟨3, .guard⟩], some (3, true)⟩ ?vv2zm5 ?rv2zm5
          (try simp only [Act.put, tC, tD, tE])
          refine tA 7 ⟨some 102, .pick (.tmp 98) (.tmp 101) (.const (.bool false)), 4, "law.go:123", #[⟨3, .data⟩, ⟨6, .data⟩], none⟩ ?vv2zm6 ?rv2zm6
          (try simp only [Act.put, tC, tD, tE])
          refine tA 8 ⟨some 103, .move (.tmp 102), 4, "law.go:123", #[⟨7, .data⟩, ⟨5, .chain⟩], none⟩ ?vv2zm7 ?rv2zm7
          (try simp only [Act.put, tC, tD, tE])
          refine tA 9 ⟨some 104, .move (.tmp 12), 48, "law.go:123", #[⟨8, .guard⟩], some (8, true)⟩ ?vv2zm8 ?rv2zm8
          (try simp only [Act.put, tC, tD, tE])
          refine tA 10 ⟨some 105, .binOp .eql 48 (.tmp 104) (.const (.int .u8 0)) 48, 4, "law.go:123", #[⟨9, .data⟩, ⟨8, .guard⟩], some (8, true)⟩ ?vv2zm9 ?rv2zm9
          (try simp only [Act.put, tC, tD, tE])
          refine tA 11 ⟨some 106, .pick (.tmp 103) (.tmp 105) (.const (.bool false)), 4, "law.go:123", #[⟨8, .data⟩, ⟨10, .data⟩], none⟩ ?vv2zm10 ?rv2zm10
          (try simp only [Act.put, tC, tD, tE])
          refine tA 12 ⟨some 107, .move (.tmp 106), 4, "law.go:123", #[⟨11, .data⟩, ⟨8, .chain⟩], none⟩ ?vv2zm11 ?rv2zm11
          (try simp only [Act.put, tC, tD, tE])
          refine tA 13 ⟨some 108, .load 59 (.tmp 14), 59, "law.go:123", #[⟨12, .guard⟩], some (12, true)⟩ ?vv2zm12 ?rv2zm12
          (try simp only [Act.put, tC, tD, tE])
          refine wpAnyH_ready (rs := [14]) (by kernel_rfl) (by simp) ?_
          refine AllReadyH.cons (o := ⟨some 109, .call ⟨.value (.func 13), #[.tmp 108], #[59]⟩, 61, "law.go:123", #[⟨13, .data⟩, ⟨12, .chain⟩, ⟨12, .guard⟩], some (12, true)⟩) rfl (fun Kq hKq => ?_) AllReadyH.nil
          go_simp
          (refine (pval_any _).mono ?_; rintro e' w2 ⟨rfl, hb2⟩)
          refine hKq.out _ _ ?_ (fun hHeld => ?_)
          · exact HSK.out _ (hHeld.1.trans (hb2.mono hHeld.1.size))
          clear hKq Kq
          (try simp only [Act.put, tC, tD, tE])
          refine tA 15 ⟨some 110, .binOp .eql 61 (.tmp 109) (.const .nilIface) 61, 4, "law.go:123", #[⟨14, .data⟩, ⟨12, .guard⟩], some (12, true)⟩ ?vv2zm13 ?rv2zm13
          (try simp only [Act.put, tC, tD, tE])
          refine tA 16 ⟨some 111, .pick (.tmp 107) (.tmp 110) (.const (.bool false)), 4, "law.go:123", #[⟨12, .data⟩, ⟨15, .data⟩], none⟩ ?vv2zm14 ?rv2zm14
          (try simp only [Act.put, tC, tD, tE])
          refine tA 17 ⟨some 112, .move (.tmp 111), 4, "law.go:123", #[⟨16, .data⟩, ⟨14, .chain⟩], none⟩ ?vv2zm15 ?rv2zm15
          (try simp only [Act.put, tC, tD, tE])
          refine tA 18 ⟨some 113, .load 59 (.tmp 14), 59, "law.go:123", #[⟨17, .guard⟩], some (17, true)⟩ ?vv2zm16 ?rv2zm16
          (try simp only [Act.put, tC, tD, tE])
          refine wpAnyH_ready (rs := [19]) (by kernel_rfl) (by simp) ?_
          refine AllReadyH.cons (o := ⟨some 114, .call ⟨.value (.func 14), #[.tmp 113], #[59]⟩, 47, "law.go:123", #[⟨18, .data⟩, ⟨17, .chain⟩, ⟨17, .guard⟩], some (17, true)⟩) rfl (fun Kq hKq => ?_) AllReadyH.nil
          go_simp
          (refine (pbef_any _).mono ?_; rintro e' w2 ⟨rfl, hb2⟩)
          refine hKq.out _ _ ?_ (fun hHeld => ?_)
          · exact HSK.out _ (hHeld.1.trans (hb2.mono hHeld.1.size))
          clear hKq Kq
          (try simp only [Act.put, tC, tD, tE])
          refine tA 20 ⟨some 115, .binOp .eql 47 (.tmp 114) (.const .nilIface) 47, 4, "law.go:123", #[⟨19, .data⟩, ⟨17, .guard⟩], some (17, true)⟩ ?vv2zm17 ?rv2zm17
          (try simp only [Act.put, tC, tD, tE])
          refine tA 21 ⟨some 116, .pick (.tmp 112) (.tmp 115) (.const (.bool false)), 4, "law.go:123", #[⟨17, .data⟩, ⟨20, .data⟩], none⟩ ?vv2zm18 ?rv2zm18
          (try simp only [Act.put, tC, tD, tE])
          refine tA 22 ⟨some 117, .move (.tmp 116), 4, "law.go:123", #[⟨21, .data⟩, ⟨19, .chain⟩], none⟩ ?vv2zm19 ?rv2zm19
          (try simp only [Act.put, tC, tD, tE])
          refine tA 23 ⟨some 118, .load 59 (.tmp 14), 59, "law.go:123", #[⟨22, .guard⟩], some (22, true)⟩ ?vv2zm20 ?rv2zm20
          (try simp only [Act.put, tC, tD, tE])
          refine tA 24 ⟨some 119, .move (.tmp 1), 23, "law.go:123", #[⟨22, .guard⟩], some (22, true)⟩ ?vv2zm21 ?rv2zm21
          (try simp only [Act.put, tC, tD, tE])
          refine wpAnyH_ready (rs := [25]) (by kernel_rfl) (by simp) ?_
          refine AllReadyH.cons (o := ⟨some 120, .call ⟨.value (.func 15), #[.tmp 118, .tmp 119, .const (.bool true)], #[59, 23, 4]⟩, 47, "law.go:123", #[⟨23, .data⟩, ⟨24, .data⟩, ⟨22, .chain⟩, ⟨22, .guard⟩], some (22, true)⟩) rfl (fun Kq hKq => ?_) AllReadyH.nil
          go_simp
          (refine (plate_any _ _ _).mono ?_; rintro e' w2 ⟨rfl, hb2⟩)
          refine hKq.out _ _ ?_ (fun hHeld => ?_)
          · exact HSK.out _ (hHeld.1.trans (hb2.mono hHeld.1.size))
          clear hKq Kq
          (try simp only [Act.put, tC, tD, tE])
          refine tA 26 ⟨some 121, .binOp .eql 47 (.tmp 120) (.const .nilIface) 47, 4, "law.go:123", #[⟨25, .data⟩, ⟨22, .guard⟩], some (22, true)⟩ ?vv2zm22 ?rv2zm22
          (try simp only [Act.put, tC, tD, tE])
          refine tA 27 ⟨some 122, .pick (.tmp 117) (.tmp 121) (.const (.bool false)), 4, "law.go:123", #[⟨22, .data⟩, ⟨26, .data⟩], none⟩ ?vv2zm23 ?rv2zm23
          (try simp only [Act.put, tC, tD, tE])
          refine tA 28 ⟨some 123, .move (.tmp 122), 4, "law.go:123", #[⟨27, .data⟩, ⟨25, .chain⟩], none⟩ ?vv2zm24 ?rv2zm24
          (try simp only [Act.put, tC, tD, tE])
          refine tA 29 ⟨some 124, .fieldAddr 27 (.tmp 5) 0, 0, "law.go:123", #[⟨28, .guard⟩], some (28, true)⟩ ?vv2zm25 ?rv2zm25
          (try simp only [Act.put, tC, tD, tE])
          refine tA 30 ⟨some 125, .load 24 (.tmp 124), 24, "law.go:123", #[⟨29, .data⟩, ⟨28, .guard⟩], some (28, true)⟩ ?vv2zm26 ?rv2zm26
          (try simp only [Act.put, tC, tD, tE])
          refine tA 31 ⟨some 126, .nilCheck (.tmp 125), 0, "law.go:123", #[⟨30, .data⟩, ⟨28, .guard⟩], some (28, true)⟩ ?vv2zm27 ?rv2zm27
          (try simp only [Act.put, tC, tD, tE])
          refine tA 32 ⟨some 127, .fieldAddr 74 (.tmp 126) 4, 0, "law.go:123", #[⟨31, .data⟩, ⟨28, .guard⟩], some (28, true)⟩ ?vv2zm28 ?rv2zm28
          (try simp only [Act.put, tC, tD, tE])
          refine tA 33 ⟨some 128, .load 70 (.tmp 127), 70, "law.go:123", #[⟨32, .data⟩, ⟨28, .guard⟩], some (28, true)⟩ ?vv2zm29 ?rv2zm29
          (try simp only [Act.put, tC, tD, tE])
          refine tA 34 ⟨some 129, .fieldAddr 27 (.tmp 5) 1, 0, "law.go:123", #[⟨28, .guard⟩], some (28, true)⟩ ?vv2zm30 ?rv2zm30
          (try simp only [Act.put, tC, tD, tE])
          refine tA 35 ⟨some 130, .load 25 (.tmp 129), 25, "law.go:123", #[⟨34, .data⟩, ⟨28, .guard⟩], some (28, true)⟩ ?vv2zm31 ?rv2zm31
          (try simp only [Act.put, tC, tD, tE])
          refine tA 36 ⟨some 131, .nilCheck (.tmp 130), 0, "law.go:123", #[⟨35, .data⟩, ⟨28, .guard⟩], some (28, true)⟩ ?vv2zm32 ?rv2zm32
          (try simp only [Act.put, tC, tD, tE])
          refine tA 37 ⟨some 132, .fieldAddr 82 (.tmp 131) 4, 0, "law.go:123", #[⟨36, .data⟩, ⟨28, .guard⟩], some (28, true)⟩ ?vv2zm33 ?rv2zm33
          (try simp only [Act.put, tC, tD, tE])
          refine tA 38 ⟨some 133, .load 79 (.tmp 132), 79, "law.go:123", #[⟨37, .data⟩, ⟨28, .guard⟩], some (28, true)⟩ ?vv2zm34 ?rv2zm34
          (try simp only [Act.put, tC, tD, tE])
          refine wpAnyH_ready (rs := [39]) (by kernel_rfl) (by simp) ?_
          refine AllReadyH.cons (o := ⟨some 134, .call ⟨.value (.func 16), #[.tmp 128, .tmp 133], #[70, 79]⟩, 4, "law.go:123", #[⟨33, .data⟩, ⟨38, .data⟩, ⟨28, .chain⟩, ⟨28, .guard⟩], some (28, true)⟩) rfl (fun Kq hKq => ?_) AllReadyH.nil
          go_simp
          (refine ((HSE.out _ (HBW.out _ hHeld.1)).2.2).mono ?_; rintro e' w2 ⟨rfl, hb2⟩)
          refine hKq.out _ _ ?_ (fun hHeld => ?_)
          · exact HSK.out _ (hHeld.1.trans (hb2.mono hHeld.1.size))
          clear hKq Kq
          (try simp only [Act.put, tC, tD, tE])
          refine tA 40 ⟨some 135, .pick (.tmp 123) (.tmp 134) (.const (.bool false)), 4, "law.go:123", #[⟨28, .data⟩, ⟨39, .data⟩], none⟩ ?vv2zm35 ?rv2zm35
          (try simp only [Act.put, tC, tD, tE])
          refine tA 41 ⟨some 136, .move (.tmp 135), 4, "law.go:123", #[⟨40, .data⟩, ⟨39, .chain⟩], none⟩ ?vv2zm36 ?rv2zm36
          (try simp only [Act.put, tC, tD, tE])
          refine tA 42 ⟨some 137, .load 27 (.tmp 5), 27, "law.go:123", #[⟨41, .guard⟩], some (41, true)⟩ ?vv2zm37 ?rv2zm37
          (try simp only [Act.put, tC, tD, tE])
          refine wpAnyH_ready (rs := [43]) (by kernel_rfl) (by simp) ?_
          refine AllReadyH.cons (o := ⟨some 138, .call ⟨.value (.func 17), #[.tmp 137], #[27]⟩, 4, "law.go:123", #[⟨42, .data⟩, ⟨41, .chain⟩, ⟨41, .guard⟩], some (41, true)⟩) rfl (fun Kq hKq => ?_) AllReadyH.nil
          go_simp
          (refine (HALL.out _ (HBW.out _ hHeld.1)).mono ?_; rintro e' w2 ⟨rfl, hb2⟩)
          refine hKq.out _ _ ?_ (fun hHeld => ?_)
          · exact HSK.out _ (hHeld.1.trans (hb2.mono hHeld.1.size))
          clear hKq Kq
          (try simp only [Act.put, tC, tD, tE])
          refine tA 44 ⟨some 139, .pick (.tmp 136) (.tmp 138) (.const (.bool false)), 4, "law.go:123", #[⟨41, .data⟩, ⟨43, .data⟩], none⟩ ?vv2zm38 ?rv2zm38
          (try simp only [Act.put, tC, tD, tE])
          refine tA 45 ⟨some 140, .move (.tmp 139), 4, "law.go:123", #[⟨44, .data⟩, ⟨43, .chain⟩], none⟩ ?vv2zm39 ?rv2zm39
          (try simp only [Act.put, tC, tD, tE])
          refine wpAnyH_ready (rs := [46]) (by kernel_rfl) (by simp) ?_
          refine AllReadyH.cons (o := ⟨some 141, .call ⟨.value (.func 18), #[], #[]⟩, 4, "law.go:123", #[⟨45, .chain⟩, ⟨45, .guard⟩], some (45, true)⟩) rfl (fun Kq hKq => ?_) AllReadyH.nil
          go_simp
          (refine (HLV.out _ (HBW.out _ hHeld.1)).mono ?_; rintro e' w2 ⟨rfl, hb2⟩)
          refine hKq.out _ _ ?_ (fun hHeld => ?_)
          · exact HSK.out _ (hHeld.1.trans (hb2.mono hHeld.1.size))
          clear hKq Kq
          (try simp only [Act.put, tC, tD, tE])
          refine tA 47 ⟨some 142, .pick (.tmp 140) (.tmp 141) (.const (.bool false)), 4, "law.go:123", #[⟨45, .data⟩, ⟨46, .data⟩], none⟩ ?vv2zm40 ?rv2zm40
          (try simp only [Act.put, tC, tD, tE])
          refine tA 48 ⟨some 4, .assign (.tmp 142), 4, "law.go:123", #[⟨47, .data⟩, ⟨46, .chain⟩, ⟨0, .phase⟩, ⟨1, .phase⟩, ⟨2, .phase⟩, ⟨3, .phase⟩, ⟨4, .phase⟩, ⟨5, .phase⟩, ⟨6, .phase⟩, ⟨7, .phase⟩, ⟨8, .phase⟩, ⟨9, .phase⟩, ⟨10, .phase⟩, ⟨11, .phase⟩, ⟨12, .phase⟩, ⟨13, .phase⟩, ⟨14, .phase⟩, ⟨15, .phase⟩, ⟨16, .phase⟩, ⟨17, .phase⟩, ⟨18, .phase⟩, ⟨19, .phase⟩, ⟨20, .phase⟩, ⟨21, .phase⟩, ⟨22, .phase⟩, ⟨23, .phase⟩, ⟨24, .phase⟩, ⟨25, .phase⟩, ⟨26, .phase⟩, ⟨27, .phase⟩, ⟨28, .phase⟩, ⟨29, .phase⟩, ⟨30, .phase⟩, ⟨31, .phase⟩, ⟨32, .phase⟩, ⟨33, .phase⟩, ⟨34, .phase⟩, ⟨35, .phase⟩, ⟨36, .phase⟩, ⟨37, .phase⟩, ⟨38, .phase⟩, ⟨39, .phase⟩, ⟨40, .phase⟩, ⟨41, .phase⟩, ⟨42, .phase⟩, ⟨43, .phase⟩, ⟨44, .phase⟩, ⟨45, .phase⟩, ⟨46, .phase⟩, ⟨47, .phase⟩], none⟩ ?vv2zm41 ?rv2zm41
          (try simp only [Act.put, tC, tD, tE])
          refine wpAnyH_done (by kernel_rfl) ?_ _
          go_wp2_with fail
          go_ret
          exact ⟨rfl, HBL.out _ (HBW.out _ hHeld.1)⟩
end Go.Proofs.YtpmafdggbeppcaaGreatDoor.S18
