/- Texts of this seat, one behind the other. -/
import Derived.Test.YthafnphpcdbnlaaGreatDoorMLawNew35
set_option linter.unusedVariables false
set_option linter.unusedSimpArgs false
set_option linter.unusedVariables false
set_option linter.unusedSimpArgs false
namespace Go.Proofs.YthafnphpcdbnlaaGreatDoor.S10
open Go.Proofs.YthafnphpcdbnlaaGreatDoor
open Go.RowKit

theorem rehash_nil {w : World} {b : Int} {n : Nat} {h : Nat → Nat} (K : Kit b n h) : Calls Tryz.prog 53 #[nilS, .int .i64 b] w fun e w' => ∃ s ss, e = .returned s ∧ Tab w' w.heap.size s ss (List.replicate n []) ∧ Below w.heap.size w w' := by
  have hq : Qs w w.heap.size none ([] : List (List Ent)) := Qs.nil
  have hk : Keys (([] : List (List Ent)).flatten) := fun e he => by simp at he
  by_cases h0 : 0 < n
  · have := rrehash_any (w := w) (c := 0) (Ls := []) h K.rsize K.rhash K.few hq (Nat.le_refl _) (by simp) (by omega) hk (by simp) (by simp)
    rw [List.flatten_nil, reh_nil] at this
    exact this
  · obtain rfl : n = 0 := by omega
    have := rrehash_any (w := w) (c := 0) (Ls := []) h K.rsize K.rhash K.few hq (Nat.le_refl _) (by simp) (by omega) hk (by simp) (by simp)
    rw [List.flatten_nil, reh_nil] at this
    exact this
set_option maxHeartbeats 4000000 in
set_option maxRecDepth 20000 in
theorem rnew_any (now : Int) (w : World) : Calls Tryz.prog 26 #[.int .u64 now] w fun e w' => ∃ s own, e = .returned s ∧ Rt w' w.heap.size own s (M0 now) ∧ Below w.heap.size w w' := by
  obtain ⟨h, hk, -⟩ := kits
  have K : Kit 2 4 (h 2) := hk 2 (by omega) (by omega)
  have HR := Lib.hid (fun W => rehash_nil (w := W) K)
  have HBG := Lib.hid (fun W => rbegins_any (w := W) K.rsize K.few now)
  clear hk K
  have hz : ∀ W, (zeroValue 159).run Tryz.prog W = .ok (.agg #[nilS, nilS, nilS, nilS, nilS, nilS, nilS, nilS, nilS, nilS, nilS, nilS, nilS, nilS, nilS, nilS, nilS, nilS]) W := fun W => by
    simp [zeroValue, go_sem, Tryz.underlying159]; rfl
  go_enter Tryz.func26, Tryz.ntmps26
  go_upto_region 2 with (fail)
  have hnew := heap_alloc_new w (.cells #[nilS, nilS, nilS, nilS, nilS, nilS, nilS, nilS, nilS, nilS, nilS, nilS, nilS, nilS, nilS, nilS, nilS, nilS] 159)
  have hb0 := below1 w (.cells #[nilS, nilS, nilS, nilS, nilS, nilS, nilS, nilS, nilS, nilS, nilS, nilS, nilS, nilS, nilS, nilS, nilS, nilS] 159)
  have hs0 : (w.alloc (.cells #[nilS, nilS, nilS, nilS, nilS, nilS, nilS, nilS, nilS, nilS, nilS, nilS, nilS, nilS, nilS, nilS, nilS, nilS] 159)).heap.size = w.heap.size + 1 := by simp
  generalize w.alloc (.cells #[nilS, nilS, nilS, nilS, nilS, nilS, nilS, nilS, nilS, nilS, nilS, nilS, nilS, nilS, nilS, nilS, nilS, nilS] 159) = w0 at *
  obtain ⟨X, hX⟩ : ∃ X, X = w.heap.size := ⟨_, rfl⟩
  rw [← hX] at hnew ⊢
  have hall : ∀ j, j < 18 → w0.drew.cell? ⟨X, j, none⟩ = some nilS ∧ w0.drew.frozen? ⟨X, j, none⟩ = false := fun j hj => by
    refine ⟨?_, froz_row hnew j⟩
    have := cell_row hnew j
    rw [show w0.drew.cell? ⟨X, j, none⟩ = w0.cell? ⟨X, j, none⟩ from rfl, this]
    have : j = 0 ∨ j = 1 ∨ j = 2 ∨ j = 3 ∨ j = 4 ∨ j = 5 ∨ j = 6 ∨ j = 7 ∨ j = 8 ∨ j = 9 ∨ j = 10 ∨ j = 11 ∨ j = 12 ∨ j = 13 ∨ j = 14 ∨ j = 15 ∨ j = 16 ∨ j = 17 := by omega
    rcases this with rfl | rfl | rfl | rfl | rfl | rfl | rfl | rfl | rfl | rfl | rfl | rfl | rfl | rfl | rfl | rfl | rfl | rfl <;> rfl
  have hXl : X < w0.drew.heap.size := by show X < w0.heap.size; omega
  have HALL := Lib.hid hall; have HB0 := Lib.hid hb0; have HX := Lib.hid hX; have HS0 := Lib.hid hs0
  clear hnew hb0 hz hall hX hs0
  refine wp_region_held_drew (S := fun _ => True) (by kernel_rfl) ?_ (fun hHeld => ?_)
  · trivial
  refine wpAnyH_take (i := 0) (oi := ({ dst := some 6, op := Op.move (Operand.tmp 3), type := 52, pos := "ref.go:35", after := #[], guard := none } : Oper)) (v := ?va0) rfl (by kernel_rfl) (by kernel_rfl) (by kernel_rfl) (fun _ _ _ h => h) (Or.inl ⟨by rfl, fun w hSw => ?hya0⟩) (by assumption) ?ra0
  case hya0 => (try dsimp only at hSw); go_simp; (try with_reducible rfl)
  (try simp only [Act.put, List.setIfInBounds_toArray, List.set_cons_zero, List.set_cons_succ])
  refine wpAnyH_take (i := 2) (oi := ({ dst := some 8, op := Op.nilCheck (Operand.tmp 6), type := 0, pos := "ref.go:35", after := #[{ on := 0, ground := Ground.data }], guard := none } : Oper)) (v := ?va2) rfl (by kernel_rfl) (by kernel_rfl) (by kernel_rfl) (fun _ _ _ h => h) (Or.inl ⟨by rfl, fun w hSw => ?hya2⟩) (by assumption) ?ra2
  case hya2 => (try dsimp only at hSw); go_simp; (try with_reducible rfl)
  (try simp only [Act.put, List.setIfInBounds_toArray, List.set_cons_zero, List.set_cons_succ])
  refine wpAnyH_take (i := 3) (oi := ({ dst := some 9, op := Op.fieldAddr 159 (Operand.tmp 8) 0, type := 0, pos := "ref.go:35", after := #[{ on := 2, ground := Ground.data }], guard := none } : Oper)) (v := ?va3) rfl (by kernel_rfl) (by kernel_rfl) (by kernel_rfl) (fun _ _ _ h => h) (Or.inl ⟨by rfl, fun w hSw => ?hya3⟩) (by assumption) ?ra3
  case hya3 => (try dsimp only at hSw); go_simp; (try with_reducible rfl)
  (try simp only [Act.put, List.setIfInBounds_toArray, List.set_cons_zero, List.set_cons_succ])
  refine wpAnyH_ready (rs := [1]) (by kernel_rfl) (by simp) ?_
  refine AllReadyH.cons (o := ({ dst := some 7, op := Op.call { callee := Callee.value (Operand.func 53), args := #[Operand.const (Value.slice none 0 0), Operand.const (Value.int IntKind.i64 2)], argTypes := #[154, 3] }, type := 154, pos := "ref.go:35", after := #[], guard := none } : Oper)) rfl (fun Kq hKq => ?_) AllReadyH.nil
  go_simp
  (refine (HR.out _).mono ?_; rintro e w1 ⟨s1, ss1, rfl, ht1, hb1⟩; obtain ⟨A1, c1, hse, hc1, hc19⟩ := ht1.shape; rw [List.length_replicate] at hse hc1; subst hse; have HT1 := Lib.hid ht1; have HB1 := Lib.hid hb1; clear ht1)
  refine hKq.out _ _ ?_ (fun hHeld => ?_)
  · trivial
  clear hKq Kq
  (try simp only [Act.put, List.setIfInBounds_toArray, List.set_cons_zero, List.set_cons_succ])
  refine wpAnyH_take (i := 4) (oi := ({ dst := some 10, op := Op.indexAddr 155 (Operand.tmp 9) (Operand.const (Value.int IntKind.i64 2)), type := 0, pos := "ref.go:35", after := #[{ on := 3, ground := Ground.data }, { on := 0, ground := Ground.phase }, { on := 1, ground := Ground.phase }], guard := none } : Oper)) (v := ?va4) rfl (by kernel_rfl) (by kernel_rfl) (by kernel_rfl) (fun _ _ _ h => h) (Or.inl ⟨by rfl, fun w hSw => ?hya4⟩) (by assumption) ?ra4
  case hya4 => (try dsimp only at hSw); go_simp; (try with_reducible rfl)
  (try simp only [Act.put, List.setIfInBounds_toArray, List.set_cons_zero, List.set_cons_succ])
  refine wpAnyH_ready (rs := [5]) (by kernel_rfl) (by simp) ?_
  refine AllReadyH.cons (o := ({ dst := none, op := Op.store 154 (Operand.tmp 10) (Operand.tmp 7), type := 0, pos := "ref.go:35", after := #[{ on := 4, ground := Ground.data }, { on := 1, ground := Ground.data }, { on := 1, ground := Ground.chain }, { on := 0, ground := Ground.phase }, { on := 1, ground := Ground.phase }], guard := none } : Oper)) rfl (fun Kq hKq => ?_) AllReadyH.nil
  have k2 := (hb1.cell (p := ⟨X, 2, none⟩) hXl).trans (HALL.out 2 (by omega)).1; have f2 := (hb1.frozen (p := ⟨X, 2, none⟩) hXl).trans (HALL.out 2 (by omega)).2; clear hb1; go_simp
  refine hKq.out _ _ ?_ (fun hHeld => ?_)
  · trivial
  clear hKq Kq
  (try simp only [Act.put, List.setIfInBounds_toArray, List.set_cons_zero, List.set_cons_succ])
  refine wpAnyH_done (by kernel_rfl) ?_ _
  have hX2 : X < (w1.setCell ⟨X, 2, none⟩ (.slice A1 4 c1)).drew.heap.size := by
    have := HB1.out.size
    show X < (w1.setCell _ _).heap.size
    simp [World.setCell]; omega
  have H11 : Hid (∀ W, Below (w1.setCell ⟨X, 2, none⟩ (.slice A1 4 c1)).drew.heap.size (w1.setCell ⟨X, 2, none⟩ (.slice A1 4 c1)).drew W → W.cell? ⟨X, 11, none⟩ = some nilS ∧ W.frozen? ⟨X, 11, none⟩ = false) := Lib.hid fun W hb =>
    ⟨(hb.cell (p := ⟨X, 11, none⟩) hX2).trans ((World.cell?_setCell_other _ _ _ _ (by simp)).trans ((HB1.out.cell (p := ⟨X, 11, none⟩) hXl).trans (HALL.out 11 (by omega)).1)), (hb.frozen (p := ⟨X, 11, none⟩) hX2).trans ((World.frozen?_setCell _ _ _ _).trans ((HB1.out.frozen (p := ⟨X, 11, none⟩) hXl).trans (HALL.out 11 (by omega)).2))⟩
  go_upto_region 3 with (fail)
  refine wp_region_held_drew (S := fun _ => True) (by kernel_rfl) ?_ (fun hHeld => ?_)
  · trivial
  refine wpAnyH_take (i := 0) (oi := ({ dst := some 11, op := Op.move (Operand.tmp 3), type := 52, pos := "ref.go:36", after := #[], guard := none } : Oper)) (v := ?vb0) rfl (by kernel_rfl) (by kernel_rfl) (by kernel_rfl) (fun _ _ _ h => h) (Or.inl ⟨by rfl, fun w hSw => ?hyb0⟩) (by assumption) ?rb0
  case hyb0 => (try dsimp only at hSw); go_simp; (try with_reducible rfl)
  (try simp only [Act.put, List.setIfInBounds_toArray, List.set_cons_zero, List.set_cons_succ])
  refine wpAnyH_take (i := 1) (oi := ({ dst := some 12, op := Op.move (Operand.tmp 0), type := 22, pos := "ref.go:36", after := #[], guard := none } : Oper)) (v := ?vb1) rfl (by kernel_rfl) (by kernel_rfl) (by kernel_rfl) (fun _ _ _ h => h) (Or.inl ⟨by rfl, fun w hSw => ?hyb1⟩) (by assumption) ?rb1
  case hyb1 => (try dsimp only at hSw); go_simp; (try with_reducible rfl)
  (try simp only [Act.put, List.setIfInBounds_toArray, List.set_cons_zero, List.set_cons_succ])
  refine wpAnyH_take (i := 3) (oi := ({ dst := some 14, op := Op.nilCheck (Operand.tmp 11), type := 0, pos := "ref.go:36", after := #[{ on := 0, ground := Ground.data }], guard := none } : Oper)) (v := ?vb3) rfl (by kernel_rfl) (by kernel_rfl) (by kernel_rfl) (fun _ _ _ h => h) (Or.inl ⟨by rfl, fun w hSw => ?hyb3⟩) (by assumption) ?rb3
  case hyb3 => (try dsimp only at hSw); go_simp; (try with_reducible rfl)
  (try simp only [Act.put, List.setIfInBounds_toArray, List.set_cons_zero, List.set_cons_succ])
  refine wpAnyH_take (i := 4) (oi := ({ dst := some 15, op := Op.fieldAddr 159 (Operand.tmp 14) 1, type := 0, pos := "ref.go:36", after := #[{ on := 3, ground := Ground.data }], guard := none } : Oper)) (v := ?vb4) rfl (by kernel_rfl) (by kernel_rfl) (by kernel_rfl) (fun _ _ _ h => h) (Or.inl ⟨by rfl, fun w hSw => ?hyb4⟩) (by assumption) ?rb4
  case hyb4 => (try dsimp only at hSw); go_simp; (try with_reducible rfl)
  (try simp only [Act.put, List.setIfInBounds_toArray, List.set_cons_zero, List.set_cons_succ])
  refine wpAnyH_ready (rs := [2]) (by kernel_rfl) (by simp) ?_
  refine AllReadyH.cons (o := ({ dst := some 13, op := Op.call { callee := Callee.value (Operand.func 54), args := #[Operand.const (Value.int IntKind.i64 2), Operand.tmp 12], argTypes := #[3, 22] }, type := 156, pos := "ref.go:36", after := #[{ on := 1, ground := Ground.data }], guard := none } : Oper)) rfl (fun Kq hKq => ?_) AllReadyH.nil
  go_simp
  (refine (HBG.out _).mono ?_; rintro e w3 ⟨s2, rfl, hr2, hb3⟩; obtain ⟨A2, c2, rfl, hc2, hc29⟩ := hr2.shape; have HR2 := Lib.hid hr2; have HB3 := Lib.hid hb3; clear hr2)
  refine hKq.out _ _ ?_ (fun hHeld => ?_)
  · trivial
  clear hKq Kq
  (try simp only [Act.put, List.setIfInBounds_toArray, List.set_cons_zero, List.set_cons_succ])
  refine wpAnyH_take (i := 5) (oi := ({ dst := some 16, op := Op.indexAddr 157 (Operand.tmp 15) (Operand.const (Value.int IntKind.i64 2)), type := 0, pos := "ref.go:36", after := #[{ on := 4, ground := Ground.data }, { on := 0, ground := Ground.phase }, { on := 1, ground := Ground.phase }, { on := 2, ground := Ground.phase }], guard := none } : Oper)) (v := ?vb5) rfl (by kernel_rfl) (by kernel_rfl) (by kernel_rfl) (fun _ _ _ h => h) (Or.inl ⟨by rfl, fun w hSw => ?hyb5⟩) (by assumption) ?rb5
  case hyb5 => (try dsimp only at hSw); go_simp; (try with_reducible rfl)
  (try simp only [Act.put, List.setIfInBounds_toArray, List.set_cons_zero, List.set_cons_succ])
  refine wpAnyH_ready (rs := [6]) (by kernel_rfl) (by simp) ?_
  refine AllReadyH.cons (o := ({ dst := none, op := Op.store 156 (Operand.tmp 16) (Operand.tmp 13), type := 0, pos := "ref.go:36", after := #[{ on := 5, ground := Ground.data }, { on := 2, ground := Ground.data }, { on := 2, ground := Ground.chain }, { on := 0, ground := Ground.phase }, { on := 1, ground := Ground.phase }, { on := 2, ground := Ground.phase }], guard := none } : Oper)) rfl (fun Kq hKq => ?_) AllReadyH.nil
  obtain ⟨k3, f3⟩ := H11.out w3 hb3; clear hb3; go_simp
  refine hKq.out _ _ ?_ (fun hHeld => ?_)
  · trivial
  clear hKq Kq
  (try simp only [Act.put, List.setIfInBounds_toArray, List.set_cons_zero, List.set_cons_succ])
  refine wpAnyH_done (by kernel_rfl) ?_ _
  have hs1 := HB1.out.size; have hs2 := HB3.out.size
  have hz1 : (w1.setCell ⟨X, 2, none⟩ (.slice A1 4 c1)).drew.heap.size = w1.heap.size := by show (w1.setCell _ _).heap.size = _; simp [World.setCell]
  have hw0 : w0.drew.heap.size = w.heap.size + 1 := HS0.out
  rw [hz1] at hs2
  rw [hw0] at hs1
  have hXw := HX.out
  have t12 : Turns (fun x => x = X) w1 (w1.setCell ⟨X, 2, none⟩ (.slice A1 4 c1)).drew := ((Turns.refl (fun x => x = X) w1).setCell ⟨X, 2, none⟩ _ rfl).drew
  have t13 : Turns (fun x => x = X) w1 w3 := t12.trans (Turns.of_below (S := fun x => x = X) HB3.out) (fun _ _ e => e)
  have t34 : Turns (fun x => x = X) w3 (w3.setCell ⟨X, 11, none⟩ (.slice A2 4 c2)) := (Turns.refl (fun x => x = X) w3).setCell ⟨X, 11, none⟩ _ rfl
  have t14 := t13.trans t34 (fun _ _ e => e)
  have b04 : Below w.heap.size w (w3.setCell ⟨X, 11, none⟩ (.slice A2 4 c2)) := (HB0.out.drew.trans (HB1.out.mono (by omega))).trans (t14.below (by omega) (fun k hk e => by omega))
  have htab := HT1.out
  have hl2 := HR2.out.lt
  rw [hz1] at hl2
  have hz4 := t34.size
  have hnl : ∀ x r, NewT (.slice A1 4 c1) ss1 2 x r → w.heap.size + 1 ≤ x ∧ x < w1.heap.size := fun x r e => by
    have := NewT.lt htab e; omega
  obtain ⟨own, o1, -, o3⟩ := own_new (fun _ => none) (fun x r => (x = X ∧ r = .set) ∨ NewT (.slice A1 4 c1) ss1 2 x r ∨ ((Value.slice A2 4 c2).ownBlock = some x ∧ r = .tim 2)) (fun _ => False) 0 (fun x r r' e e' => by
    rcases e with ⟨h1, rfl⟩ | h1 | ⟨h1, rfl⟩
    · rcases e' with ⟨h2, rfl⟩ | h2 | ⟨h2, rfl⟩
      · rfl
      · have := hnl x _ h2; omega
      · have := hl2 x h2; omega
    · rcases e' with ⟨h2, rfl⟩ | h2 | ⟨h2, rfl⟩
      · have := hnl x _ h1; omega
      · exact NewT.fun htab h1 h2
      · have := hl2 x h2; have := hnl x _ h1; omega
    · rcases e' with ⟨h2, rfl⟩ | h2 | ⟨h2, rfl⟩
      · have := hl2 x h1; omega
      · have := hl2 x h1; have := hnl x _ h2; omega
      · rfl) (fun _ _ _ => Nat.zero_le _) (fun _ _ e => by cases e)
  have H : RtF (w3.setCell ⟨X, 11, none⟩ (.slice A2 4 c2)) w.heap.size own (.pointer (some ⟨X, 0, none⟩)) (M0 now) X (upd (fun _ => nilS) 2 (.slice A1 4 c1)) (upd (fun _ => nilS) 2 (.slice A2 4 c2)) (upd (fun _ _ => nilS) 2 (fun i => (ss1[i]?).getD nilS)) := by
    have hM2 : M0 now ((2 : Nat) : Int) = fresh now (List.replicate 4 []) := upd_same _ _ _
    have hMo : ∀ b : Int, b ≠ 2 → M0 now b = [] := fun b hb => upd_ne _ _ hb
    have hXl3 : X < w3.heap.size := by omega
    have hsame : ∀ j, j ≠ 2 → j ≠ 11 → j < 18 → (w3.setCell ⟨X, 11, none⟩ (.slice A2 4 c2)).cell? ⟨X, j, none⟩ = some nilS := fun j h1 h2 hj =>
      (World.cell?_setCell_other _ _ _ _ (by simp <;> omega)).trans ((HB3.out.cell (p := ⟨X, j, none⟩) hX2).trans ((World.cell?_setCell_other _ _ _ _ (by simp <;> omega)).trans ((HB1.out.cell (p := ⟨X, j, none⟩) hXl).trans (HALL.out j hj).1)))
    have hfz : ∀ j, j < 18 → (w3.setCell ⟨X, 11, none⟩ (.slice A2 4 c2)).frozen? ⟨X, j, none⟩ = false := fun j hj =>
      (World.frozen?_setCell _ _ _ _).trans ((HB3.out.frozen (p := ⟨X, j, none⟩) hX2).trans ((World.frozen?_setCell _ _ _ _).trans ((HB1.out.frozen (p := ⟨X, j, none⟩) hXl).trans (HALL.out j hj).2)))
    have h2c : (w3.setCell ⟨X, 11, none⟩ (.slice A2 4 c2)).cell? ⟨X, 2, none⟩ = some (.slice A1 4 c1) :=
      (World.cell?_setCell_other _ _ _ _ (by simp)).trans ((HB3.out.cell (p := ⟨X, 2, none⟩) hX2).trans (World.cell?_setCell_same _ _ _ k2))
    have h11c : (w3.setCell ⟨X, 11, none⟩ (.slice A2 4 c2)).cell? ⟨X, 11, none⟩ = some (.slice A2 4 c2) := World.cell?_setCell_same _ _ _ k3
    refine ⟨fun x r e => ?_, rfl, o1 _ _ (.inl ⟨rfl, rfl⟩), fun j hj => ⟨?_, hfz j (by omega)⟩, fun j hj => ⟨?_, hfz _ (by omega)⟩, fun b hb => hMo b (by omega), fun j hj => ?_, fun j hj => ?_, fun j i hi => ?_, fun j x hj e => ?_, fun j x hj e => ?_, fun j i x hi e => ?_⟩
    · have hz5 : w3.heap.size ≤ (w3.setCell ⟨X, 11, none⟩ (.slice A2 4 c2)).heap.size := hz4
      rcases o3 x r e with h' | ⟨rfl, rfl⟩ | h' | ⟨h', rfl⟩
      · cases h'
      · omega
      · have := hnl x r h'; omega
      · have := hl2 x h'; omega
    · by_cases e : j = 2
      · subst e; rw [upd_same]; exact h2c
      · rw [upd_ne _ _ e]; exact hsame j e (by omega) (by omega)
    · by_cases e : j = 2
      · subst e; rw [upd_same]; exact h11c
      · rw [upd_ne _ _ e]; exact hsame _ (by omega) (by omega) (by omega)
    · by_cases e : j = 2
      · subst e
        rw [upd_same, upd_same, hM2, fresh_len, List.length_replicate]
        have := tab_qflat htab
        rw [List.length_replicate] at this
        exact (this.keep t14 (fun x e e2 => by have := htab.row.lt x e; omega)).base (Nat.zero_le _)
      · rw [upd_ne _ _ e, hMo _ (by omega)]
        exact row_nil _ _ _
    · by_cases e : j = 2
      · subst e
        rw [upd_same, hM2, fresh_len, tflat_fresh, List.length_replicate]
        exact (HR2.out.keep t34 (fun x e e2 => by have := hl2 x e; omega)).base (Nat.zero_le _)
      · rw [upd_ne _ _ e, hMo _ (by omega)]
        exact row_nil _ _ _
    · by_cases e : j = 2
      · subst e
        rw [hM2, fresh_len] at hi
        rw [upd_same, hM2, fresh_at _ _ hi]
        obtain ⟨v, hv, hr, _⟩ := htab.qs i hi
        rw [hv]
        exact (hr.keep t14 (fun x e e2 => by have := htab.lt hv e; omega)).base (Nat.zero_le _)
      · rw [hMo _ (by omega)] at hi
        simp at hi
    · by_cases ej : j = 2
      · subst ej
        rw [upd_same] at e
        exact o1 _ _ (.inr (.inl (.inl ⟨e, rfl⟩)))
      · rw [upd_ne _ _ ej] at e
        simp [Value.ownBlock] at e
    · by_cases ej : j = 2
      · subst ej
        rw [upd_same] at e
        exact o1 _ _ (.inr (.inr ⟨e, rfl⟩))
      · rw [upd_ne _ _ ej] at e
        simp [Value.ownBlock] at e
    · by_cases ej : j = 2
      · subst ej
        rw [hM2, fresh_len] at hi
        rw [upd_same] at e
        obtain ⟨v, hv, hr, _⟩ := htab.qs i hi
        rw [hv] at e
        exact o1 _ _ (.inr (.inl (.inr ⟨i, v, hv, e, rfl⟩)))
      · rw [hMo _ (by omega)] at hi
        simp at hi
  have HH := Lib.hid H; have HB4 := Lib.hid b04
  clear H b04 t14 t34 t13 t12 hnl hl2 hz4 htab o1 o3 hXw hw0 hs1 hs2 hz1
  go_wp2_with fail
  go_ret
  exact ⟨_, rfl, ⟨own, X, _, _, _, HH.out⟩, HB4.out⟩
end Go.Proofs.YthafnphpcdbnlaaGreatDoor.S10
set_option linter.unusedVariables false
set_option linter.unusedSimpArgs false
namespace Go.Proofs.YthafnphpcdbnlaaGreatDoor.S10
open Go.Proofs.YthafnphpcdbnlaaGreatDoor
open Go.RowKit

section
variable {w : World} {base : Nat} {own : Nat → Option Role} {s : Value} {M : Int → List Bk}
/-- The eighteen cells of the document's set. -/
def CV (w : World) (rb : Nat) (f : Nat → Value) : Prop := ∀ j, j < 18 → w.cell? ⟨rb, j, none⟩ = some (f j) ∧ w.frozen? ⟨rb, j, none⟩ = false
theorem CV.turn {w w' : World} {rb : Nat} {f : Nat → Value} (h : CV w rb f) (hb : Below w.heap.size w w') (hl : rb < w.heap.size) : CV w' rb f := fun j hj =>
  ⟨(hb.cell (p := ⟨rb, j, none⟩) hl).trans (h j hj).1, (hb.frozen (p := ⟨rb, j, none⟩) hl).trans (h j hj).2⟩
theorem CV.set {w : World} {rb : Nat} {f : Nat → Value} (h : CV w rb f) {i : Nat} (hi : i < 18) (v : Value) : CV (w.setCell ⟨rb, i, none⟩ v) rb (upd f i v) := fun j hj => by
  refine ⟨?_, (World.frozen?_setCell _ _ _ _).trans (h j hj).2⟩
  by_cases e : j = i
  · subst e
    rw [upd_same]
    exact World.cell?_setCell_same _ _ _ (h j hj).1
  · rw [upd_ne _ _ e]
    exact (World.cell?_setCell_other _ _ _ _ (by simp <;> omega)).trans (h j hj).1
end
end Go.Proofs.YthafnphpcdbnlaaGreatDoor.S10
set_option linter.unusedVariables false
set_option linter.unusedSimpArgs false
namespace Go.Proofs.YthafnphpcdbnlaaGreatDoor.S10
open Go.Proofs.YthafnphpcdbnlaaGreatDoor
open Go.RowKit

theorem info79 : ∃ i, Tryz.prog.info? 176 = some i ∧ i.zero = some (.agg #[.int .i64 0, .int .i64 0]) ∧ i.size = 2 ∧ i.bytes = 16 := info_of (by kernel_rfl)
end Go.Proofs.YthafnphpcdbnlaaGreatDoor.S10
set_option linter.unusedVariables false
set_option linter.unusedSimpArgs false
namespace Go.Proofs.YthafnphpcdbnlaaGreatDoor.S10
open Go.Proofs.YthafnphpcdbnlaaGreatDoor
open Go.RowKit

theorem otherP_any (b i : Int) (w : World) : Calls Tryz.prog 67 #[.agg #[.int .i64 b, .int .i64 i]] w fun e w' => e = .returned (.agg #[.int .i64 b, .int .i64 i]) ∧ Below w.heap.size w w' := by
  go_enter Tryz.func67, Tryz.ntmps67
  go_wp2
  exact bodyPost_ret (v := .agg #[.int .i64 b, .int .i64 i]) (by simp [results, Tryz.results67, go_sem]) rfl ⟨rfl, by first | exact ((Below.refl _ w).alloc (Nat.le_refl _) _).alloc (by simp) _ | exact below1 w _⟩
theorem otherT_any (a f : Int) (w : World) : Calls Tryz.prog 64 #[.agg #[.int .u64 a, .int .u64 f]] w fun e w' => e = .returned (.agg #[.int .u64 a, .int .u64 f]) ∧ Below w.heap.size w w' := by
  go_enter Tryz.func64, Tryz.ntmps64
  go_wp2
  exact bodyPost_ret (v := .agg #[.int .u64 a, .int .u64 f]) (by simp [results, Tryz.results64, go_sem]) rfl ⟨rfl, by first | exact ((Below.refl _ w).alloc (Nat.le_refl _) _).alloc (by simp) _ | exact below1 w _⟩
theorem pflat_get : ∀ (D : List (Int × Int)) (i : Nat), i < D.length → (pflat D)[i * 2]? = some (.int .i64 D[i]!.1) ∧ (pflat D)[i * 2 + 1]? = some (.int .i64 D[i]!.2)
  | [], i, h => by simp at h
  | e :: r, 0, _ => ⟨rfl, rfl⟩
  | e :: r, i + 1, h => by
    have hr := pflat_get r i (by simpa using h)
    have e3 : pflat (e :: r) = .int .i64 e.1 :: .int .i64 e.2 :: pflat r := rfl
    have e4 : (e :: r)[i + 1]! = r[i]! := by simp
    rw [e3, e4, show (i + 1) * 2 = i * 2 + 2 by omega, show i * 2 + 2 + 1 = i * 2 + 1 + 2 by omega]
    exact hr
theorem Rd.pair {w : World} {base : Nat} {A : Option Addr} {D : List (Int × Int)} (h : Rd w base A (pflat D)) {i : Nat} (hi : i < D.length) : ∃ g o, A = some ⟨g, o, none⟩ ∧ g < base ∧
    w.cell? ⟨g, o + i * 2, none⟩ = some (.int .i64 D[i]!.1) ∧ w.cell? ⟨g, o + i * 2 + 1, none⟩ = some (.int .i64 D[i]!.2) := by
  obtain ⟨g, o, e, hg, hl⟩ := h (by rw [pflat_len]; omega)
  obtain ⟨h0, h1⟩ := pflat_get D i hi
  exact ⟨g, o, e, hg, hl _ _ h0, by have := hl _ _ h1; rwa [← Nat.add_assoc] at this⟩
theorem neqP (a b c d : Int) (w : World) : (binOp .neq 176 (.agg #[.int .i64 a, .int .i64 b]) (.agg #[.int .i64 c, .int .i64 d])).run Tryz.prog w = .ok (.bool (!decide (a = c ∧ b = d))) w := by
  simp [go_sem, Tryz.underlying176]
  by_cases h1 : a = c <;> by_cases h2 : b = d <;> simp [h1, h2]
theorem neqT (a b c d : Int) (w : World) : (binOp .neq 171 (.agg #[.int .u64 a, .int .u64 b]) (.agg #[.int .u64 c, .int .u64 d])).run Tryz.prog w = .ok (.bool (!decide (a = c ∧ b = d))) w := by
  simp [go_sem, Tryz.underlying171]
  by_cases h1 : a = c <;> by_cases h2 : b = d <;> simp [h1, h2]
theorem neqT33 (a b c d : Int) (w : World) : (binOp .neq 173 (.agg #[.int .u64 a, .int .u64 b]) (.agg #[.int .u64 c, .int .u64 d])).run Tryz.prog w = .ok (.bool (!decide (a = c ∧ b = d))) w := by
  simp [go_sem, Tryz.underlying173]
  by_cases h1 : a = c <;> by_cases h2 : b = d <;> simp [h1, h2]
theorem eqlT33 (a b c d : Int) (w : World) : (binOp .eql 173 (.agg #[.int .u64 a, .int .u64 b]) (.agg #[.int .u64 c, .int .u64 d])).run Tryz.prog w = .ok (.bool (decide (a = c ∧ b = d))) w := by
  simp [go_sem, Tryz.underlying173]
  by_cases h1 : a = c <;> by_cases h2 : b = d <;> simp [h1, h2]
theorem eqlP30 (a b c d : Int) (w : World) : (binOp .eql 169 (.agg #[.int .i64 a, .int .i64 b]) (.agg #[.int .i64 c, .int .i64 d])).run Tryz.prog w = .ok (.bool (decide (a = c ∧ b = d))) w := by
  simp [go_sem, Tryz.underlying169]
  by_cases h1 : a = c <;> by_cases h2 : b = d <;> simp [h1, h2]
theorem keep2 {wr W W' : World} {g o : Nat} {d : Int × Int} (h1 : Below wr.heap.size wr W) (hb : Below W.heap.size W W') (hg : g < wr.heap.size) (h : W.cell? ⟨g, o, none⟩ = some (.int .i64 d.1) ∧ W.cell? ⟨g, o + 1, none⟩ = some (.int .i64 d.2)) :
    W'.cell? ⟨g, o, none⟩ = some (.int .i64 d.1) ∧ W'.cell? ⟨g, o + 1, none⟩ = some (.int .i64 d.2) :=
  ⟨(hb.cell (p := ⟨g, o, none⟩) (Nat.lt_of_lt_of_le hg h1.size)).trans h.1, (hb.cell (p := ⟨g, o + 1, none⟩) (Nat.lt_of_lt_of_le hg h1.size)).trans h.2⟩
end Go.Proofs.YthafnphpcdbnlaaGreatDoor.S10
set_option linter.unusedVariables false
set_option linter.unusedSimpArgs false
namespace Go.Proofs.YthafnphpcdbnlaaGreatDoor.S10
open Go.Proofs.YthafnphpcdbnlaaGreatDoor

/-- The entries of a key, as they stand. -/
def kf (key : Int) (E : List Ent) : List Ent := E.filter fun e => e.k == key
theorem kf_le (key : Int) (E : List Ent) : (kf key E).length ≤ E.length := List.length_filter_le _ _
theorem kf_snoc (key : Int) (E : List Ent) (e : Ent) : kf key (E ++ [e]) = if e.k = key then kf key E ++ [e] else kf key E := by
  unfold kf
  rw [List.filter_append]
  by_cases hi : e.k = key
  · simp [hi]
  · simp [hi]
theorem kf_bk (h : Nat → Nat) (k i : Nat) (E : List Ent) : kf (k : Int) (bk h i E) = if i = h k then kf (k : Int) E else [] := by
  unfold kf bk
  rw [List.filter_filter]
  by_cases e : i = h k
  · rw [if_pos e]
    refine List.filter_congr fun x _ => ?_
    by_cases hx : x.k = (k : Int)
    · simp [hx, e]
    · simp [hx]
  · rw [if_neg e, List.filter_eq_nil_iff]
    intro x _ hx
    simp at hx
    obtain ⟨h1, h2⟩ := hx
    rw [h1, Int.toNat_natCast] at h2
    exact e h2.symm
theorem kf_flat (key : Int) : ∀ Ls : List (List Ent), kf key Ls.flatten = (Ls.map (kf key)).flatten
  | [] => rfl
  | l :: r => by
    rw [List.flatten_cons, List.map_cons, List.flatten_cons, ← kf_flat key r]
    unfold kf
    rw [List.filter_append]
theorem one_of (L : List Ent) (a : Nat) : ∀ n, ((List.range n).map fun i => if i = a then L else []).flatten = if a < n then L else []
  | 0 => by simp
  | n + 1 => by
    rw [List.range_succ, List.map_append, List.flatten_append, one_of L a n]
    simp only [List.map_cons, List.map_nil, List.flatten_cons, List.flatten_nil, List.append_nil]
    by_cases h1 : a < n
    · rw [if_pos h1, if_neg (by omega), if_pos (by omega), List.append_nil]
    · by_cases h2 : n = a
      · rw [if_neg h1, if_pos h2, if_pos (by omega), List.nil_append]
      · rw [if_neg h1, if_neg h2, if_neg (by omega), List.nil_append]
/-- Of each key who stood, and in which order. -/
theorem kf_reh (h : Nat → Nat) (n k : Nat) (E : List Ent) (hk : h k < n) : kf (k : Int) (reh h n E).flatten = kf (k : Int) E := by
  rw [kf_flat]
  unfold reh
  rw [List.map_map]
  have : (kf (k : Int) ∘ fun i => bk h i E) = fun i => if i = h k then kf (k : Int) E else [] := funext fun i => kf_bk h k i E
  rw [this, one_of, if_pos hk]
theorem reh_below (h : Nat → Nat) (E : List Ent) : ∀ n, (reh h n E).flatten.length = (E.filter fun e => decide (h e.k.toNat < n)).length
  | 0 => by
    have : (E.filter fun e => decide (h e.k.toNat < 0)) = [] := List.filter_eq_nil_iff.2 (by simp)
    rw [this]; rfl
  | n + 1 => by
    have hs : reh h (n + 1) E = reh h n E ++ [bk h n E] := by unfold reh; rw [List.range_succ, List.map_append]; rfl
    rw [hs, List.flatten_append, List.length_append, reh_below h E n]
    simp only [List.flatten_cons, List.flatten_nil, List.append_nil]
    unfold bk
    clear hs
    induction E with
    | nil => rfl
    | cons e r ih =>
      simp only [List.filter_cons]
      by_cases h1 : h e.k.toNat < n
      · simp only [h1, show h e.k.toNat < n + 1 by omega, show ¬ h e.k.toNat = n by omega, decide_true, if_true, beq_iff_eq, if_false, List.length_cons]
        omega
      · by_cases h2 : h e.k.toNat = n
        · simp only [h2, show ¬ n < n by omega, show n < n + 1 by omega, decide_true, decide_false, if_true, beq_self_eq_true, List.length_cons]
          simp only [Bool.false_eq_true, if_false]
          omega
        · simp only [h1, h2, show ¬ h e.k.toNat < n + 1 by omega, decide_false, beq_iff_eq, if_false, Bool.false_eq_true]
          exact ih
/-- Nobody comes, or goes. -/
theorem reh_total (h : Nat → Nat) (n : Nat) (E : List Ent) (hk : Keys E) (hlt : ∀ k, k < 4294967296 → h k < n) : (reh h n E).flatten.length = E.length := by
  rw [reh_below]
  congr 1
  rw [List.filter_eq_self]
  intro e he
  obtain ⟨k, hk1, hk2⟩ := hk e he
  rw [hk1, Int.toNat_natCast]
  simpa using hlt k hk2
end Go.Proofs.YthafnphpcdbnlaaGreatDoor.S10
