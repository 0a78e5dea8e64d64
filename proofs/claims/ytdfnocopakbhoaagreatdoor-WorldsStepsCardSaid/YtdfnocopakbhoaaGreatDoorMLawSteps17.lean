/- Texts of this seat, one behind the other. -/
import Derived.Test.YtdfnocopakbhoaaGreatDoorMLawSteps16
namespace Go.Proofs.YtdfnocopakbhoaaGreatDoor.S10
open Go.Proofs.YtdfnocopakbhoaaGreatDoor
open Go.RowKit

theorem tflat_snoc (L : List Bk) (x : Bk) : tflat (L ++ [x]) = tflat L ++ [.int .u64 x.a, .int .u64 x.f] := by
  refine (tflat_ext (by simp [tflat_len]; omega) fun j hj => ?_).symm
  rw [List.length_append, List.length_singleton] at hj
  by_cases h : j < L.length * 2
  · rw [List.getElem?_append_left (by rw [tflat_len]; exact h), tflat_at L h]
    unfold tcell
    rw [get_app_ne (by omega)]
  · rw [List.getElem?_append_right (by rw [tflat_len]; omega), tflat_len]
    unfold tcell
    rw [show j / 2 = L.length by omega, get_app_last]
    have : j = L.length * 2 ∨ j = L.length * 2 + 1 := by omega
    rcases this with rfl | rfl
    · simp
    · rw [show L.length * 2 + 1 - L.length * 2 = 1 by omega]
      simp [Nat.add_mod]
theorem tflat_fresh (now : Int) (Ls : List (List Ent)) : tflat (fresh now Ls) = tflat (List.replicate Ls.length ⟨now, now, []⟩) := by
  refine (tflat_ext (by simp [tflat_len, fresh_len]) fun j hj => ?_).symm
  rw [fresh_len] at hj
  rw [tflat_at _ (by rw [List.length_replicate]; exact hj)]
  unfold tcell
  rw [fresh_at now Ls (by omega)]
  have : (List.replicate Ls.length (⟨now, now, []⟩ : Bk))[j / 2]! = ⟨now, now, []⟩ := by
    rw [List.getElem!_eq_getElem?_getD, List.getElem?_replicate, if_pos (by omega)]; rfl
  rw [this]
theorem info86 : ∃ i, Tryz.prog.info? 148 = some i ∧ i.zero = some (.agg #[.int .u64 0, .int .u64 0]) ∧ i.size = 2 ∧ i.bytes = 16 := info_of (by kernel_rfl)
theorem layT : Lay 204 148 2 16 (.agg #[.int .u64 0, .int .u64 0]) := ⟨Tryz.underlying204, info86, rfl, by decide, by decide⟩
theorem rd_two (w : World) (x y : Value) (T : TypeId) : Rd (w.alloc (.cells #[x, y] T)) (w.heap.size + 1) (some ⟨w.heap.size, 0, none⟩) [x, y] := fun _ => by
  refine ⟨w.heap.size, 0, rfl, by omega, fun j u e => ?_⟩
  have hnew := heap_alloc_new w (.cells #[x, y] T)
  rw [cell_row hnew, Nat.zero_add]
  simpa using e
theorem rbegin_any (x : Int) (w : World) : Calls Tryz.prog 120 #[.int .u64 x] w fun e w' => e = .returned (.agg #[.int .u64 x, .int .u64 x]) ∧ Below w.heap.size w w' := by
  go_enter Tryz.func120, Tryz.ntmps120
  go_wp2
  exact bodyPost_ret (v := .agg #[.int .u64 x, .int .u64 x]) (by simp [results, Tryz.results120, go_sem]) rfl ⟨rfl, below1 w _⟩
theorem tflat_one (L : List Bk) : ∀ u ∈ tflat L, u.oneCell' = true := fun u hu => by
  simp only [tflat, List.mem_map] at hu
  obtain ⟨j, _, rfl⟩ := hu
  unfold tcell
  split <;> rfl
set_option maxHeartbeats 1000000 in
theorem rbegins_any {w : World} {b : Int} {n : Nat} (hs : ∀ w, Calls Tryz.prog 118 #[.int .i64 b] w fun e w' => e = .returned (.int .i64 (n : Nat)) ∧ w = w') (hn : n ≤ 256) (now : Int) :
    Calls Tryz.prog 90 #[.int .i64 b, .int .u64 now] w fun e w' => ∃ s, e = .returned s ∧ Row w' w.heap.size 2 s n (tflat (List.replicate n ⟨now, now, []⟩)) ∧ Below w.heap.size w w' := by
  have HS := Lib.hid hs
  clear hs
  go_enter Tryz.func90, Tryz.ntmps90
  go_wp2_with fail
  go_loopg [5, 6] n (fun q s5 s6 wx => ∃ k : Nat, k ≤ n ∧ q = n - k ∧ s6 = .int .i64 (k : Int) ∧ Row wx w.heap.size 2 s5 k (tflat (List.replicate k ⟨now, now, []⟩)) ∧ Below w.heap.size w wx)
  case atStart => exact ⟨0, by omega, rfl, rfl, row_nil _ _ _, Below.refl _ _⟩
  case round =>
    obtain ⟨k, hk, rfl, rfl, hrow, hb⟩ := hrel
    have HROW := Lib.hid hrow; have HB := Lib.hid hb
    clear hrow hb
    by_cases hkn : k < n
    · go_wp2_with (go_at_call 118; refine (HS.out _).mono ?_; rintro e w' ⟨rfl, rfl⟩)
      refine (rbegin_any now _).mono ?_
      rintro e w1 ⟨rfl, hb1⟩
      have HB1 := Lib.hid hb1
      clear hb1
      go_wp2_with (at_builtin; refine wpList_append_row layT rfl _ _ rfl rfl ((HROW.out.new HB1.out).new (below1 _ _)) (tflat_one _) (by have := HB.out.size; have := HB1.out.size; simp; omega) 1 rfl (rd_two w1 _ _ 148) rfl (fun u hu => by simp at hu; rw [hu]; rfl) (by omega) ?_; intro v' w2 hr2 ht2 ho2; (have HR2 := Lib.hid hr2); (have HT2 := Lib.hid ht2); (clear hr2 ht2 ho2))
      go_roundg (n - (k + 1))
      case measure => omega
      case rel =>
        refine ⟨k + 1, by omega, rfl, by go_num, ?_, ?_⟩
        · have := HR2.out
          rw [← tflat_snoc (List.replicate k ⟨now, now, []⟩) ⟨now, now, []⟩, ← List.replicate_succ'] at this
          exact this
        · have t3 := ((Turns.refl _ w1).alloc _).trans HT2.out (fun k _ e => e)
          exact (HB.out.trans (HB1.out.mono HB.out.size)).trans (t3.below (by have := HB.out.size; have := HB1.out.size; omega) (fun x hx e => by have := (HROW.out.lt x e).1; omega))
    · obtain rfl : k = n := by omega
      go_wp2_with (go_at_call 118; refine (HS.out _).mono ?_; rintro e w' ⟨rfl, rfl⟩)
      go_ret
      exact ⟨_, rfl, HROW.out, HB.out⟩
/-- What of new queues' blocks is owned for what. -/
def NewT (s : Value) (ss : List Value) (b : Int) (x : Nat) (r : Role) : Prop := (s.ownBlock = some x ∧ r = .tab b) ∨ ∃ i v, ss[i]? = some v ∧ v.ownBlock = some x ∧ r = .q b i
theorem NewT.fun {w : World} {base : Nat} {s : Value} {ss : List Value} {Ls : List (List Ent)} (h : Tab w base s ss Ls) {b : Int} {x : Nat} {r r' : Role} (e : NewT s ss b x r) (e' : NewT s ss b x r') : r = r' := by
  rcases e with ⟨h1, rfl⟩ | ⟨i, v, hv, h1, rfl⟩
  · rcases e' with ⟨_, rfl⟩ | ⟨j, u, hu, h2, rfl⟩
    · rfl
    · exact absurd h1 (h.off j u x hu h2)
  · rcases e' with ⟨h2, rfl⟩ | ⟨j, u, hu, h2, rfl⟩
    · exact absurd h2 (h.off i v x hv h1)
    · rw [h.apart i j v u x hv hu h1 h2]
theorem NewT.lt {w : World} {base : Nat} {s : Value} {ss : List Value} {Ls : List (List Ent)} (h : Tab w base s ss Ls) {b : Int} {x : Nat} {r : Role} (e : NewT s ss b x r) : base ≤ x ∧ x < w.heap.size := by
  rcases e with ⟨h1, rfl⟩ | ⟨i, v, hv, h1, rfl⟩
  · exact h.row.lt x h1
  · exact h.lt hv h1
theorem tab_qflat {w : World} {base : Nat} {s : Value} {ss : List Value} {Ls : List (List Ent)} (h : Tab w base s ss Ls) : Row w base 1 s Ls.length (qflat Ls.length fun i => (ss[i]?).getD nilS) := by
  have hl := h.len
  have : ss = qflat Ls.length fun i => (ss[i]?).getD nilS := by
    refine List.ext_getElem? fun j => ?_
    by_cases hj : j < Ls.length
    · rw [qflat_at _ hj, List.getElem?_eq_getElem (by omega)]; rfl
    · rw [List.getElem?_eq_none (by omega), List.getElem?_eq_none (by rw [qflat_len]; omega)]
  have hr := h.row
  rw [this] at hr
  exact hr
end Go.Proofs.YtdfnocopakbhoaaGreatDoor.S10
namespace Go.Proofs.YtdfnocopakbhoaaGreatDoor.S10
open Go.Proofs.YtdfnocopakbhoaaGreatDoor
open Go.RowKit

theorem rehash_nil {w : World} {b : Int} {n : Nat} {h : Nat → Nat} (K : Kit b n h) : Calls Tryz.prog 89 #[nilS, .int .i64 b] w fun e w' => ∃ s ss, e = .returned s ∧ Tab w' w.heap.size s ss (List.replicate n []) ∧ Below w.heap.size w w' := by
  have hq : Qs w w.heap.size none ([] : List (List Ent)) := Qs.nil
  have hk : Keys (([] : List (List Ent)).flatten) := fun e he => by simp at he
  by_cases h0 : 0 < n
  · have := rrehash_any (w := w) (c := 0) (Ls := []) h K.rsize K.rhash K.few hq (Nat.le_refl _) (by simp) (by omega) hk (by simp) (by simp)
    rw [List.flatten_nil, reh_nil] at this
    exact this
  · obtain rfl : n = 0 := by omega
    have := rrehash_any (w := w) (c := 0) (Ls := []) h K.rsize K.rhash K.few hq (Nat.le_refl _) (by simp) (by omega) hk (by simp) (by simp)
    rw [List.flatten_nil, reh_nil] at this
    exact this
set_option maxHeartbeats 4000000 in
set_option maxRecDepth 20000 in
theorem rnew_any (now : Int) (w : World) : Calls Tryz.prog 41 #[.int .u64 now] w fun e w' => ∃ s own, e = .returned s ∧ Rt w' w.heap.size own s (M0 now) ∧ Below w.heap.size w w' := by
  obtain ⟨h, hk, -⟩ := kits
  have K : Kit 2 4 (h 2) := hk 2 (by omega) (by omega)
  have HR := Lib.hid (fun W => rehash_nil (w := W) K)
  have HBG := Lib.hid (fun W => rbegins_any (w := W) K.rsize K.few now)
  clear hk K
  have hz : ∀ W, (zeroValue 207).run Tryz.prog W = .ok (.agg #[nilS, nilS, nilS, nilS, nilS, nilS, nilS, nilS, nilS, nilS, nilS, nilS, nilS, nilS, nilS, nilS, nilS, nilS]) W := fun W => by
    simp [zeroValue, go_sem, Tryz.underlying207]; rfl
  go_enter Tryz.func41, Tryz.ntmps41
  go_upto_region 2 with (fail)
  have hnew := heap_alloc_new w (.cells #[nilS, nilS, nilS, nilS, nilS, nilS, nilS, nilS, nilS, nilS, nilS, nilS, nilS, nilS, nilS, nilS, nilS, nilS] 207)
  have hb0 := below1 w (.cells #[nilS, nilS, nilS, nilS, nilS, nilS, nilS, nilS, nilS, nilS, nilS, nilS, nilS, nilS, nilS, nilS, nilS, nilS] 207)
  have hs0 : (w.alloc (.cells #[nilS, nilS, nilS, nilS, nilS, nilS, nilS, nilS, nilS, nilS, nilS, nilS, nilS, nilS, nilS, nilS, nilS, nilS] 207)).heap.size = w.heap.size + 1 := by simp
  generalize w.alloc (.cells #[nilS, nilS, nilS, nilS, nilS, nilS, nilS, nilS, nilS, nilS, nilS, nilS, nilS, nilS, nilS, nilS, nilS, nilS] 207) = w0 at *
  obtain ⟨X, hX⟩ : ∃ X, X = w.heap.size := ⟨_, rfl⟩
  rw [← hX] at hnew ⊢
  have hall : ∀ j, j < 18 → w0.drew.cell? ⟨X, j, none⟩ = some nilS ∧ w0.drew.frozen? ⟨X, j, none⟩ = false := fun j hj => by
    refine ⟨?_, froz_row hnew j⟩
    have := cell_row hnew j
    rw [show w0.drew.cell? ⟨X, j, none⟩ = w0.cell? ⟨X, j, none⟩ from rfl, this]
    have : j = 0 ∨ j = 1 ∨ j = 2 ∨ j = 3 ∨ j = 4 ∨ j = 5 ∨ j = 6 ∨ j = 7 ∨ j = 8 ∨ j = 9 ∨ j = 10 ∨ j = 11 ∨ j = 12 ∨ j = 13 ∨ j = 14 ∨ j = 15 ∨ j = 16 ∨ j = 17 := by omega
    rcases this with rfl | rfl | rfl | rfl | rfl | rfl | rfl | rfl | rfl | rfl | rfl | rfl | rfl | rfl | rfl | rfl | rfl | rfl <;> rfl
  have hXl : X < w0.drew.heap.size := by show X < w0.heap.size; omega
  have HALL := Lib.hid hall; have HB0 := Lib.hid hb0; have HX := Lib.hid hX; have HS0 := Lib.hid hs0
  clear hnew hb0 hz hall hX hs0
  refine wp_region_held_drew (S := fun _ => True) (by kernel_rfl) ?_ (fun hHeld => ?_)
  · trivial
  refine wpAnyH_take (i := 0) (oi := ({ dst := some 6, op := Op.move (Operand.tmp 3), type := 52, pos := "ref.go:35", after := #[], guard := none } : Oper)) (v := ?va0) rfl (by kernel_rfl) (by kernel_rfl) (by kernel_rfl) (fun _ _ _ h => h) (Or.inl ⟨by rfl, fun w hSw => ?hya0⟩) (by assumption) ?ra0
  case hya0 => (try dsimp only at hSw); go_simp; (try with_reducible rfl)
  (try simp only [Act.put, List.setIfInBounds_toArray, List.set_cons_zero, List.set_cons_succ])
  refine wpAnyH_take (i := 2) (oi := ({ dst := some 8, op := Op.nilCheck (Operand.tmp 6), type := 0, pos := "ref.go:35", after := #[{ on := 0, ground := Ground.data }], guard := none } : Oper)) (v := ?va2) rfl (by kernel_rfl) (by kernel_rfl) (by kernel_rfl) (fun _ _ _ h => h) (Or.inl ⟨by rfl, fun w hSw => ?hya2⟩) (by assumption) ?ra2
  case hya2 => (try dsimp only at hSw); go_simp; (try with_reducible rfl)
  (try simp only [Act.put, List.setIfInBounds_toArray, List.set_cons_zero, List.set_cons_succ])
  refine wpAnyH_take (i := 3) (oi := ({ dst := some 9, op := Op.fieldAddr 207 (Operand.tmp 8) 0, type := 0, pos := "ref.go:35", after := #[{ on := 2, ground := Ground.data }], guard := none } : Oper)) (v := ?va3) rfl (by kernel_rfl) (by kernel_rfl) (by kernel_rfl) (fun _ _ _ h => h) (Or.inl ⟨by rfl, fun w hSw => ?hya3⟩) (by assumption) ?ra3
  case hya3 => (try dsimp only at hSw); go_simp; (try with_reducible rfl)
  (try simp only [Act.put, List.setIfInBounds_toArray, List.set_cons_zero, List.set_cons_succ])
  refine wpAnyH_ready (rs := [1]) (by kernel_rfl) (by simp) ?_
  refine AllReadyH.cons (o := ({ dst := some 7, op := Op.call { callee := Callee.value (Operand.func 89), args := #[Operand.const (Value.slice none 0 0), Operand.const (Value.int IntKind.i64 2)], argTypes := #[202, 3] }, type := 202, pos := "ref.go:35", after := #[], guard := none } : Oper)) rfl (fun Kq hKq => ?_) AllReadyH.nil
  go_simp
  (refine (HR.out _).mono ?_; rintro e w1 ⟨s1, ss1, rfl, ht1, hb1⟩; obtain ⟨A1, c1, hse, hc1, hc19⟩ := ht1.shape; rw [List.length_replicate] at hse hc1; subst hse; have HT1 := Lib.hid ht1; have HB1 := Lib.hid hb1; clear ht1)
  refine hKq.out _ _ ?_ (fun hHeld => ?_)
  · trivial
  clear hKq Kq
  (try simp only [Act.put, List.setIfInBounds_toArray, List.set_cons_zero, List.set_cons_succ])
  refine wpAnyH_take (i := 4) (oi := ({ dst := some 10, op := Op.indexAddr 203 (Operand.tmp 9) (Operand.const (Value.int IntKind.i64 2)), type := 0, pos := "ref.go:35", after := #[{ on := 3, ground := Ground.data }, { on := 0, ground := Ground.phase }, { on := 1, ground := Ground.phase }], guard := none } : Oper)) (v := ?va4) rfl (by kernel_rfl) (by kernel_rfl) (by kernel_rfl) (fun _ _ _ h => h) (Or.inl ⟨by rfl, fun w hSw => ?hya4⟩) (by assumption) ?ra4
  case hya4 => (try dsimp only at hSw); go_simp; (try with_reducible rfl)
  (try simp only [Act.put, List.setIfInBounds_toArray, List.set_cons_zero, List.set_cons_succ])
  refine wpAnyH_ready (rs := [5]) (by kernel_rfl) (by simp) ?_
  refine AllReadyH.cons (o := ({ dst := none, op := Op.store 202 (Operand.tmp 10) (Operand.tmp 7), type := 0, pos := "ref.go:35", after := #[{ on := 4, ground := Ground.data }, { on := 1, ground := Ground.data }, { on := 1, ground := Ground.chain }, { on := 0, ground := Ground.phase }, { on := 1, ground := Ground.phase }], guard := none } : Oper)) rfl (fun Kq hKq => ?_) AllReadyH.nil
  have k2 := (hb1.cell (p := ⟨X, 2, none⟩) hXl).trans (HALL.out 2 (by omega)).1; have f2 := (hb1.frozen (p := ⟨X, 2, none⟩) hXl).trans (HALL.out 2 (by omega)).2; clear hb1; go_simp
  refine hKq.out _ _ ?_ (fun hHeld => ?_)
  · trivial
  clear hKq Kq
  (try simp only [Act.put, List.setIfInBounds_toArray, List.set_cons_zero, List.set_cons_succ])
  refine wpAnyH_done (by kernel_rfl) ?_ _
  have hX2 : X < (w1.setCell ⟨X, 2, none⟩ (.slice A1 4 c1)).drew.heap.size := by
    have := HB1.out.size
    show X < (w1.setCell _ _).heap.size
    simp [World.setCell]; omega
  have H11 : Hid (∀ W, Below (w1.setCell ⟨X, 2, none⟩ (.slice A1 4 c1)).drew.heap.size (w1.setCell ⟨X, 2, none⟩ (.slice A1 4 c1)).drew W → W.cell? ⟨X, 11, none⟩ = some nilS ∧ W.frozen? ⟨X, 11, none⟩ = false) := Lib.hid fun W hb =>
    ⟨(hb.cell (p := ⟨X, 11, none⟩) hX2).trans ((World.cell?_setCell_other _ _ _ _ (by simp)).trans ((HB1.out.cell (p := ⟨X, 11, none⟩) hXl).trans (HALL.out 11 (by omega)).1)), (hb.frozen (p := ⟨X, 11, none⟩) hX2).trans ((World.frozen?_setCell _ _ _ _).trans ((HB1.out.frozen (p := ⟨X, 11, none⟩) hXl).trans (HALL.out 11 (by omega)).2))⟩
  go_upto_region 3 with (fail)
  refine wp_region_held_drew (S := fun _ => True) (by kernel_rfl) ?_ (fun hHeld => ?_)
  · trivial
  refine wpAnyH_take (i := 0) (oi := ({ dst := some 11, op := Op.move (Operand.tmp 3), type := 52, pos := "ref.go:36", after := #[], guard := none } : Oper)) (v := ?vb0) rfl (by kernel_rfl) (by kernel_rfl) (by kernel_rfl) (fun _ _ _ h => h) (Or.inl ⟨by rfl, fun w hSw => ?hyb0⟩) (by assumption) ?rb0
  case hyb0 => (try dsimp only at hSw); go_simp; (try with_reducible rfl)
  (try simp only [Act.put, List.setIfInBounds_toArray, List.set_cons_zero, List.set_cons_succ])
  refine wpAnyH_take (i := 1) (oi := ({ dst := some 12, op := Op.move (Operand.tmp 0), type := 22, pos := "ref.go:36", after := #[], guard := none } : Oper)) (v := ?vb1) rfl (by kernel_rfl) (by kernel_rfl) (by kernel_rfl) (fun _ _ _ h => h) (Or.inl ⟨by rfl, fun w hSw => ?hyb1⟩) (by assumption) ?rb1
  case hyb1 => (try dsimp only at hSw); go_simp; (try with_reducible rfl)
  (try simp only [Act.put, List.setIfInBounds_toArray, List.set_cons_zero, List.set_cons_succ])
  refine wpAnyH_take (i := 3) (oi := ({ dst := some 14, op := Op.nilCheck (Operand.tmp 11), type := 0, pos := "ref.go:36", after := #[{ on := 0, ground := Ground.data }], guard := none } : Oper)) (v := ?vb3) rfl (by kernel_rfl) (by kernel_rfl) (by kernel_rfl) (fun _ _ _ h => h) (Or.inl ⟨by rfl, fun w hSw => ?hyb3⟩) (by assumption) ?rb3
  case hyb3 => (try dsimp only at hSw); go_simp; (try with_reducible rfl)
  (try simp only [Act.put, List.setIfInBounds_toArray, List.set_cons_zero, List.set_cons_succ])
  refine wpAnyH_take (i := 4) (oi := ({ dst := some 15, op := Op.fieldAddr 207 (Operand.tmp 14) 1, type := 0, pos := "ref.go:36", after := #[{ on := 3, ground := Ground.data }], guard := none } : Oper)) (v := ?vb4) rfl (by kernel_rfl) (by kernel_rfl) (by kernel_rfl) (fun _ _ _ h => h) (Or.inl ⟨by rfl, fun w hSw => ?hyb4⟩) (by assumption) ?rb4
  case hyb4 => (try dsimp only at hSw); go_simp; (try with_reducible rfl)
  (try simp only [Act.put, List.setIfInBounds_toArray, List.set_cons_zero, List.set_cons_succ])
  refine wpAnyH_ready (rs := [2]) (by kernel_rfl) (by simp) ?_
  refine AllReadyH.cons (o := ({ dst := some 13, op := Op.call { callee := Callee.value (Operand.func 90), args := #[Operand.const (Value.int IntKind.i64 2), Operand.tmp 12], argTypes := #[3, 22] }, type := 204, pos := "ref.go:36", after := #[{ on := 1, ground := Ground.data }], guard := none } : Oper)) rfl (fun Kq hKq => ?_) AllReadyH.nil
  go_simp
  (refine (HBG.out _).mono ?_; rintro e w3 ⟨s2, rfl, hr2, hb3⟩; obtain ⟨A2, c2, rfl, hc2, hc29⟩ := hr2.shape; have HR2 := Lib.hid hr2; have HB3 := Lib.hid hb3; clear hr2)
  refine hKq.out _ _ ?_ (fun hHeld => ?_)
  · trivial
  clear hKq Kq
  (try simp only [Act.put, List.setIfInBounds_toArray, List.set_cons_zero, List.set_cons_succ])
  refine wpAnyH_take (i := 5) (oi := ({ dst := some 16, op := Op.indexAddr 205 (Operand.tmp 15) (Operand.const (Value.int IntKind.i64 2)), type := 0, pos := "ref.go:36", after := #[{ on := 4, ground := Ground.data }, { on := 0, ground := Ground.phase }, { on := 1, ground := Ground.phase }, { on := 2, ground := Ground.phase }], guard := none } : Oper)) (v := ?vb5) rfl (by kernel_rfl) (by kernel_rfl) (by kernel_rfl) (fun _ _ _ h => h) (Or.inl ⟨by rfl, fun w hSw => ?hyb5⟩) (by assumption) ?rb5
  case hyb5 => (try dsimp only at hSw); go_simp; (try with_reducible rfl)
  (try simp only [Act.put, List.setIfInBounds_toArray, List.set_cons_zero, List.set_cons_succ])
  refine wpAnyH_ready (rs := [6]) (by kernel_rfl) (by simp) ?_
  refine AllReadyH.cons (o := ({ dst := none, op := Op.store 204 (Operand.tmp 16) (Operand.tmp 13), type := 0, pos := "ref.go:36", after := #[{ on := 5, ground := Ground.data }, { on := 2, ground := Ground.data }, { on := 2, ground := Ground.chain }, { on := 0, ground := Ground.phase }, { on := 1, ground := Ground.phase }, { on := 2, ground := Ground.phase }], guard := none } : Oper)) rfl (fun Kq hKq => ?_) AllReadyH.nil
  obtain ⟨k3, f3⟩ := H11.out w3 hb3; clear hb3; go_simp
  refine hKq.out _ _ ?_ (fun hHeld => ?_)
  · trivial
  clear hKq Kq
  (try simp only [Act.put, List.setIfInBounds_toArray, List.set_cons_zero, List.set_cons_succ])
  refine wpAnyH_done (by kernel_rfl) ?_ _
  have hs1 := HB1.out.size; have hs2 := HB3.out.size
  have hz1 : (w1.setCell ⟨X, 2, none⟩ (.slice A1 4 c1)).drew.heap.size = w1.heap.size := by show (w1.setCell _ _).heap.size = _; simp [World.setCell]
  have hw0 : w0.drew.heap.size = w.heap.size + 1 := HS0.out
  rw [hz1] at hs2
  rw [hw0] at hs1
  have hXw := HX.out
  have t12 : Turns (fun x => x = X) w1 (w1.setCell ⟨X, 2, none⟩ (.slice A1 4 c1)).drew := ((Turns.refl (fun x => x = X) w1).setCell ⟨X, 2, none⟩ _ rfl).drew
  have t13 : Turns (fun x => x = X) w1 w3 := t12.trans (Turns.of_below (S := fun x => x = X) HB3.out) (fun _ _ e => e)
  have t34 : Turns (fun x => x = X) w3 (w3.setCell ⟨X, 11, none⟩ (.slice A2 4 c2)) := (Turns.refl (fun x => x = X) w3).setCell ⟨X, 11, none⟩ _ rfl
  have t14 := t13.trans t34 (fun _ _ e => e)
  have b04 : Below w.heap.size w (w3.setCell ⟨X, 11, none⟩ (.slice A2 4 c2)) := (HB0.out.drew.trans (HB1.out.mono (by omega))).trans (t14.below (by omega) (fun k hk e => by omega))
  have htab := HT1.out
  have hl2 := HR2.out.lt
  rw [hz1] at hl2
  have hz4 := t34.size
  have hnl : ∀ x r, NewT (.slice A1 4 c1) ss1 2 x r → w.heap.size + 1 ≤ x ∧ x < w1.heap.size := fun x r e => by
    have := NewT.lt htab e; omega
  obtain ⟨own, o1, -, o3⟩ := own_new (fun _ => none) (fun x r => (x = X ∧ r = .set) ∨ NewT (.slice A1 4 c1) ss1 2 x r ∨ ((Value.slice A2 4 c2).ownBlock = some x ∧ r = .tim 2)) (fun _ => False) 0 (fun x r r' e e' => by
    rcases e with ⟨h1, rfl⟩ | h1 | ⟨h1, rfl⟩
    · rcases e' with ⟨h2, rfl⟩ | h2 | ⟨h2, rfl⟩
      · rfl
      · have := hnl x _ h2; omega
      · have := hl2 x h2; omega
    · rcases e' with ⟨h2, rfl⟩ | h2 | ⟨h2, rfl⟩
      · have := hnl x _ h1; omega
      · exact NewT.fun htab h1 h2
      · have := hl2 x h2; have := hnl x _ h1; omega
    · rcases e' with ⟨h2, rfl⟩ | h2 | ⟨h2, rfl⟩
      · have := hl2 x h1; omega
      · have := hl2 x h1; have := hnl x _ h2; omega
      · rfl) (fun _ _ _ => Nat.zero_le _) (fun _ _ e => by cases e)
  have H : RtF (w3.setCell ⟨X, 11, none⟩ (.slice A2 4 c2)) w.heap.size own (.pointer (some ⟨X, 0, none⟩)) (M0 now) X (upd (fun _ => nilS) 2 (.slice A1 4 c1)) (upd (fun _ => nilS) 2 (.slice A2 4 c2)) (upd (fun _ _ => nilS) 2 (fun i => (ss1[i]?).getD nilS)) := by
    have hM2 : M0 now ((2 : Nat) : Int) = fresh now (List.replicate 4 []) := upd_same _ _ _
    have hMo : ∀ b : Int, b ≠ 2 → M0 now b = [] := fun b hb => upd_ne _ _ hb
    have hXl3 : X < w3.heap.size := by omega
    have hsame : ∀ j, j ≠ 2 → j ≠ 11 → j < 18 → (w3.setCell ⟨X, 11, none⟩ (.slice A2 4 c2)).cell? ⟨X, j, none⟩ = some nilS := fun j h1 h2 hj =>
      (World.cell?_setCell_other _ _ _ _ (by simp <;> omega)).trans ((HB3.out.cell (p := ⟨X, j, none⟩) hX2).trans ((World.cell?_setCell_other _ _ _ _ (by simp <;> omega)).trans ((HB1.out.cell (p := ⟨X, j, none⟩) hXl).trans (HALL.out j hj).1)))
    have hfz : ∀ j, j < 18 → (w3.setCell ⟨X, 11, none⟩ (.slice A2 4 c2)).frozen? ⟨X, j, none⟩ = false := fun j hj =>
      (World.frozen?_setCell _ _ _ _).trans ((HB3.out.frozen (p := ⟨X, j, none⟩) hX2).trans ((World.frozen?_setCell _ _ _ _).trans ((HB1.out.frozen (p := ⟨X, j, none⟩) hXl).trans (HALL.out j hj).2)))
    have h2c : (w3.setCell ⟨X, 11, none⟩ (.slice A2 4 c2)).cell? ⟨X, 2, none⟩ = some (.slice A1 4 c1) :=
      (World.cell?_setCell_other _ _ _ _ (by simp)).trans ((HB3.out.cell (p := ⟨X, 2, none⟩) hX2).trans (World.cell?_setCell_same _ _ _ k2))
    have h11c : (w3.setCell ⟨X, 11, none⟩ (.slice A2 4 c2)).cell? ⟨X, 11, none⟩ = some (.slice A2 4 c2) := World.cell?_setCell_same _ _ _ k3
    refine ⟨fun x r e => ?_, rfl, o1 _ _ (.inl ⟨rfl, rfl⟩), fun j hj => ⟨?_, hfz j (by omega)⟩, fun j hj => ⟨?_, hfz _ (by omega)⟩, fun b hb => hMo b (by omega), fun j hj => ?_, fun j hj => ?_, fun j i hi => ?_, fun j x hj e => ?_, fun j x hj e => ?_, fun j i x hi e => ?_⟩
    · have hz5 : w3.heap.size ≤ (w3.setCell ⟨X, 11, none⟩ (.slice A2 4 c2)).heap.size := hz4
      rcases o3 x r e with h' | ⟨rfl, rfl⟩ | h' | ⟨h', rfl⟩
      · cases h'
      · omega
      · have := hnl x r h'; omega
      · have := hl2 x h'; omega
    · by_cases e : j = 2
      · subst e; rw [upd_same]; exact h2c
      · rw [upd_ne _ _ e]; exact hsame j e (by omega) (by omega)
    · by_cases e : j = 2
      · subst e; rw [upd_same]; exact h11c
      · rw [upd_ne _ _ e]; exact hsame _ (by omega) (by omega) (by omega)
    · by_cases e : j = 2
      · subst e
        rw [upd_same, upd_same, hM2, fresh_len, List.length_replicate]
        have := tab_qflat htab
        rw [List.length_replicate] at this
        exact (this.keep t14 (fun x e e2 => by have := htab.row.lt x e; omega)).base (Nat.zero_le _)
      · rw [upd_ne _ _ e, hMo _ (by omega)]
        exact row_nil _ _ _
    · by_cases e : j = 2
      · subst e
        rw [upd_same, hM2, fresh_len, tflat_fresh, List.length_replicate]
        exact (HR2.out.keep t34 (fun x e e2 => by have := hl2 x e; omega)).base (Nat.zero_le _)
      · rw [upd_ne _ _ e, hMo _ (by omega)]
        exact row_nil _ _ _
    · by_cases e : j = 2
      · subst e
        rw [hM2, fresh_len] at hi
        rw [upd_same, hM2, fresh_at _ _ hi]
        obtain ⟨v, hv, hr, _⟩ := htab.qs i hi
        rw [hv]
        exact (hr.keep t14 (fun x e e2 => by have := htab.lt hv e; omega)).base (Nat.zero_le _)
      · rw [hMo _ (by omega)] at hi
        simp at hi
    · by_cases ej : j = 2
      · subst ej
        rw [upd_same] at e
        exact o1 _ _ (.inr (.inl (.inl ⟨e, rfl⟩)))
      · rw [upd_ne _ _ ej] at e
        simp [Value.ownBlock] at e
    · by_cases ej : j = 2
      · subst ej
        rw [upd_same] at e
        exact o1 _ _ (.inr (.inr ⟨e, rfl⟩))
      · rw [upd_ne _ _ ej] at e
        simp [Value.ownBlock] at e
    · by_cases ej : j = 2
      · subst ej
        rw [hM2, fresh_len] at hi
        rw [upd_same] at e
        obtain ⟨v, hv, hr, _⟩ := htab.qs i hi
        rw [hv] at e
        exact o1 _ _ (.inr (.inl (.inr ⟨i, v, hv, e, rfl⟩)))
      · rw [hMo _ (by omega)] at hi
        simp at hi
  have HH := Lib.hid H; have HB4 := Lib.hid b04
  clear H b04 t14 t34 t13 t12 hnl hl2 hz4 htab o1 o3 hXw hw0 hs1 hs2 hz1
  go_wp2_with fail
  go_ret
  exact ⟨_, rfl, ⟨own, X, _, _, _, HH.out⟩, HB4.out⟩
end Go.Proofs.YtdfnocopakbhoaaGreatDoor.S10
namespace Go.Proofs.YtdfnocopakbhoaaGreatDoor.S10
open Go.Proofs.YtdfnocopakbhoaaGreatDoor
open Go.RowKit

section
variable {w : World} {base : Nat} {own : Nat → Option Role} {s : Value} {M : Int → List Bk}
theorem rgrow_no (h : Rt w base own s M) {fr tg : Int} (now : Int) (hno : M fr = [] ∨ tg ≤ fr ∨ 8 < tg ∨ M tg ≠ []) :
    Calls Tryz.prog 52 #[s, .int .i64 fr, .int .i64 tg, .int .u64 now] w fun e w' => e = .returned (.bool false) ∧ w = w' := by
  have HF := rhas_any h fr
  have HT := rhas_any h tg
  by_cases e0 : M fr = []
  · rw [e0] at HF
    have hf0 : decide (0 < ([] : List Bk).length) = false := by decide
    rw [hf0] at HF
    have HF := Lib.hid HF
    clear h HT
    go_enter Tryz.func52, Tryz.ntmps52
    go_wp2_with (go_at_call 96; refine HF.out.mono ?_; rintro e w' ⟨rfl, rfl⟩)
    go_ret
    exact ⟨rfl, rfl⟩
  · have hf1 : decide (0 < (M fr).length) = true := by simpa using List.length_pos_iff.2 e0
    rw [hf1] at HF
    have HF := Lib.hid HF
    by_cases e1 : tg ≤ fr
    · have d1 : decide (tg ≤ fr) = true := by simpa using e1
      clear h HT
      go_enter Tryz.func52, Tryz.ntmps52
      go_wp2_with (go_at_call 96; refine HF.out.mono ?_; rintro e w' ⟨rfl, rfl⟩)
      go_ret
      exact ⟨rfl, rfl⟩
    · have d1 : decide (tg ≤ fr) = false := by simpa using e1
      by_cases e2 : 8 < tg
      · have d2 : decide (8 < tg) = true := by simpa using e2
        clear h HT
        go_enter Tryz.func52, Tryz.ntmps52
        go_wp2_with (go_at_call 96; refine HF.out.mono ?_; rintro e w' ⟨rfl, rfl⟩)
        go_ret
        exact ⟨rfl, rfl⟩
      · have d2 : decide (8 < tg) = false := by simpa using e2
        have e3 : M tg ≠ [] := by
          rcases hno with h | h | h | h
          · exact absurd h e0
          · exact absurd h e1
          · exact absurd h e2
          · exact h
        have hf2 : decide (0 < (M tg).length) = true := by simpa using List.length_pos_iff.2 e3
        rw [hf2] at HT
        have HT := Lib.hid HT
        clear h
        go_enter Tryz.func52, Tryz.ntmps52
        go_wp2_with (first
          | (go_at_call 96; ((with_reducible refine HF.out.mono ?_)); rintro e w' ⟨rfl, rfl⟩)
          | (go_at_call 96; ((with_reducible refine HT.out.mono ?_)); rintro e w' ⟨rfl, rfl⟩))
        go_ret
        exact ⟨rfl, rfl⟩
/-- The eighteen cells of the document's set. -/
def CV (w : World) (rb : Nat) (f : Nat → Value) : Prop := ∀ j, j < 18 → w.cell? ⟨rb, j, none⟩ = some (f j) ∧ w.frozen? ⟨rb, j, none⟩ = false
theorem CV.turn {w w' : World} {rb : Nat} {f : Nat → Value} (h : CV w rb f) (hb : Below w.heap.size w w') (hl : rb < w.heap.size) : CV w' rb f := fun j hj =>
  ⟨(hb.cell (p := ⟨rb, j, none⟩) hl).trans (h j hj).1, (hb.frozen (p := ⟨rb, j, none⟩) hl).trans (h j hj).2⟩
theorem CV.set {w : World} {rb : Nat} {f : Nat → Value} (h : CV w rb f) {i : Nat} (hi : i < 18) (v : Value) : CV (w.setCell ⟨rb, i, none⟩ v) rb (upd f i v) := fun j hj => by
  refine ⟨?_, (World.frozen?_setCell _ _ _ _).trans (h j hj).2⟩
  by_cases e : j = i
  · subst e
    rw [upd_same]
    exact World.cell?_setCell_same _ _ _ (h j hj).1
  · rw [upd_ne _ _ e]
    exact (World.cell?_setCell_other _ _ _ _ (by simp <;> omega)).trans (h j hj).1
set_option maxHeartbeats 4000000 in
set_option maxRecDepth 20000 in
theorem rgrow_yes (hst : Rt w base own s M) {fr tg : Int} (now : Int) (h0 : M fr ≠ []) (h1 : fr < tg) (h2 : tg ≤ 8) (h3 : M tg = []) {N Nf : Nat} {h hf : Nat → Nat} (K : Kit tg N h) (Kf : Kit fr Nf hf)
    (hl : (M fr).length = Nf) (hkeys : Keys ((M fr).map Bk.q).flatten) (hfew : ((M fr).map Bk.q).flatten.length ≤ 100000) :
    Calls Tryz.prog 52 #[s, .int .i64 fr, .int .i64 tg, .int .u64 now] w fun e w' => e = .returned (.bool true) ∧ ∃ own', Rt w' base own' s (grown M h N fr tg now) ∧ Turns (Mine own) w w' ∧ Fresh own own' w := by
  obtain ⟨rb, Q, T, V, H⟩ := hst
  obtain rfl := H.hs
  have HFR := rhas_any ⟨rb, Q, T, V, H⟩ fr
  have HTO := rhas_any ⟨rb, Q, T, V, H⟩ tg
  have hpos : 0 < (M fr).length := List.length_pos_iff.2 h0
  have hd0 : decide (0 < (M fr).length) = true := by simpa using hpos
  have hd1 : decide (0 < (M tg).length) = false := by rw [h3]; decide
  rw [hd0] at HFR
  rw [hd1] at HTO
  have HFR := Lib.hid HFR; have HTO := Lib.hid HTO
  have d1 : decide (tg ≤ fr) = false := by simpa using h1
  have d2 : decide (8 < tg) = false := by simpa using h2
  obtain ⟨fk, rfl, hf2, hf9⟩ := H.nat h0
  obtain ⟨tk, rfl⟩ := Int.eq_ofNat_of_zero_le (show 0 ≤ tg by omega)
  have hft : fk < tk := by omega
  have ht9 : tk < 9 := by omega
  have hf9i : (fk : Int) < 9 := by omega
  have ht9i : (tk : Int) < 9 := by omega
  obtain ⟨E, hE⟩ : ∃ E, E = ((M (fk : Int)).map Bk.q).flatten := ⟨_, rfl⟩
  have hrl := (H.fp rb _ H.os).2
  have hNf := Kf.few
  have hNN := K.few
  -- the cells
  have hcv : CV w.drew rb (fun j => if j < 9 then Q j else T (j - 9)) := fun j hj => by
    dsimp only
    by_cases hj9 : j < 9
    · rw [if_pos hj9]; exact H.hQ j hj9
    · rw [if_neg hj9]
      have := H.hT (j - 9) (by omega)
      rw [show 9 + (j - 9) = j by omega] at this
      exact this
  obtain ⟨Aq, cq, eq, hcq, hcq9⟩ := (H.hq fk hf9).shape
  have hc0 : w.drew.cell? ⟨rb, fk, none⟩ = some (.slice Aq Nf cq) := by
    have := (H.hQ fk hf9).1
    rw [eq, hl] at this
    exact this
  -- the calls
  have HRE : Hid (Calls Tryz.prog 89 #[.slice Aq Nf cq, .int .i64 (tk : Int)] w.drew fun e w' => ∃ s ss, e = .returned s ∧ Tab w' w.heap.size s ss (reh h N E) ∧ Below w.heap.size w.drew w') := by
    have hq : Qs w.drew w.heap.size Aq ((M (fk : Int)).map Bk.q) := by
      have hr := H.hq fk hf9
      rw [eq] at hr
      refine ⟨qflat (M (fk : Int)).length (V fk), by simp [qflat_len], hr.rd, fun i hi => ?_⟩
      rw [List.length_map] at hi
      have hqi := H.hv fk i hi
      obtain ⟨A', c', e, k1, k2⟩ := hqi.shape
      rw [map_at _ hi]
      refine ⟨A', c', by rw [qflat_at _ hi]; exact congrArg some e, k1, k2, ?_⟩
      rw [e] at hqi
      exact hqi.rd
    have := rrehash_any (c := cq) h K.rsize K.rhash K.few hq (Nat.le_refl _) (by rw [List.length_map]; exact hcq) hcq9 hkeys (by rw [List.length_map]; omega) hfew
    rw [List.length_map, hl, ← hE] at this
    exact Lib.hid this
  have HBG := Lib.hid (fun W => rbegins_any (w := W) K.rsize K.few now)
  have HRN := Lib.hid (fun W => rehash_nil (w := W) Kf)
  have HH := Lib.hid H; have HCV := Lib.hid hcv; have HL := Lib.hid hl
  clear H hcv eq hl hcq hcq9 hd0 hd1
  go_enter Tryz.func52, Tryz.ntmps52
  go_upto_region 3 with (first
    | (go_at_call 96; ((with_reducible refine HFR.out.mono ?_)); rintro e w' ⟨rfl, rfl⟩)
    | (go_at_call 96; ((with_reducible refine HTO.out.mono ?_)); rintro e w' ⟨rfl, rfl⟩))
  refine wp_region_held_drew (S := fun w' => w'.cell? ⟨rb, fk, none⟩ = some (.slice Aq Nf cq)) (by kernel_rfl) ?_ (fun hHeld => ?_)
  · exact hc0
  refine wpAnyH_take (i := 0) (oi := ({ dst := some 27, op := Op.move (Operand.tmp 0), type := 52, pos := "ref.go:87", after := #[], guard := none } : Oper)) (v := ?va0) rfl (by kernel_rfl) (by kernel_rfl) (by kernel_rfl) (fun _ _ _ h => h) (Or.inl ⟨by rfl, fun w hSw => ?hya0⟩) (by assumption) ?ra0
  case hya0 => (try dsimp only at hSw); go_simp; (try with_reducible rfl)
  (try simp only [Act.put, List.setIfInBounds_toArray, List.set_cons_zero, List.set_cons_succ])
  refine wpAnyH_take (i := 1) (oi := ({ dst := some 28, op := Op.move (Operand.tmp 2), type := 3, pos := "ref.go:87", after := #[], guard := none } : Oper)) (v := ?va1) rfl (by kernel_rfl) (by kernel_rfl) (by kernel_rfl) (fun _ _ _ h => h) (Or.inl ⟨by rfl, fun w hSw => ?hya1⟩) (by assumption) ?ra1
  case hya1 => (try dsimp only at hSw); go_simp; (try with_reducible rfl)
  (try simp only [Act.put, List.setIfInBounds_toArray, List.set_cons_zero, List.set_cons_succ])
  refine wpAnyH_take (i := 2) (oi := ({ dst := some 29, op := Op.move (Operand.tmp 0), type := 52, pos := "ref.go:87", after := #[], guard := none } : Oper)) (v := ?va2) rfl (by kernel_rfl) (by kernel_rfl) (by kernel_rfl) (fun _ _ _ h => h) (Or.inl ⟨by rfl, fun w hSw => ?hya2⟩) (by assumption) ?ra2
  case hya2 => (try dsimp only at hSw); go_simp; (try with_reducible rfl)
  (try simp only [Act.put, List.setIfInBounds_toArray, List.set_cons_zero, List.set_cons_succ])
  refine wpAnyH_take (i := 3) (oi := ({ dst := some 30, op := Op.move (Operand.tmp 1), type := 3, pos := "ref.go:87", after := #[], guard := none } : Oper)) (v := ?va3) rfl (by kernel_rfl) (by kernel_rfl) (by kernel_rfl) (fun _ _ _ h => h) (Or.inl ⟨by rfl, fun w hSw => ?hya3⟩) (by assumption) ?ra3
  case hya3 => (try dsimp only at hSw); go_simp; (try with_reducible rfl)
  (try simp only [Act.put, List.setIfInBounds_toArray, List.set_cons_zero, List.set_cons_succ])
  refine wpAnyH_take (i := 4) (oi := ({ dst := some 31, op := Op.nilCheck (Operand.tmp 29), type := 0, pos := "ref.go:87", after := #[{ on := 2, ground := Ground.data }], guard := none } : Oper)) (v := ?va4) rfl (by kernel_rfl) (by kernel_rfl) (by kernel_rfl) (fun _ _ _ h => h) (Or.inl ⟨by rfl, fun w hSw => ?hya4⟩) (by assumption) ?ra4
  case hya4 => (try dsimp only at hSw); go_simp; (try with_reducible rfl)
  (try simp only [Act.put, List.setIfInBounds_toArray, List.set_cons_zero, List.set_cons_succ])
  refine wpAnyH_take (i := 5) (oi := ({ dst := some 32, op := Op.fieldAddr 207 (Operand.tmp 31) 0, type := 0, pos := "ref.go:87", after := #[{ on := 4, ground := Ground.data }], guard := none } : Oper)) (v := ?va5) rfl (by kernel_rfl) (by kernel_rfl) (by kernel_rfl) (fun _ _ _ h => h) (Or.inl ⟨by rfl, fun w hSw => ?hya5⟩) (by assumption) ?ra5
  case hya5 => (try dsimp only at hSw); go_simp; (try with_reducible rfl)
  (try simp only [Act.put, List.setIfInBounds_toArray, List.set_cons_zero, List.set_cons_succ])
  refine wpAnyH_take (i := 6) (oi := ({ dst := some 33, op := Op.indexAddr 203 (Operand.tmp 32) (Operand.tmp 30), type := 0, pos := "ref.go:87", after := #[{ on := 5, ground := Ground.data }, { on := 3, ground := Ground.data }], guard := none } : Oper)) (v := ?va6) rfl (by kernel_rfl) (by kernel_rfl) (by kernel_rfl) (fun _ _ _ h => h) (Or.inl ⟨by rfl, fun w hSw => ?hya6⟩) (by assumption) ?ra6
  case hya6 => (try dsimp only at hSw); go_simp; (try with_reducible rfl)
  (try simp only [Act.put, List.setIfInBounds_toArray, List.set_cons_zero, List.set_cons_succ])
  refine wpAnyH_take (i := 7) (oi := ({ dst := some 34, op := Op.load 202 (Operand.tmp 33), type := 202, pos := "ref.go:87", after := #[{ on := 6, ground := Ground.data }], guard := none } : Oper)) (v := ?va7) rfl (by kernel_rfl) (by kernel_rfl) (by kernel_rfl) (fun _ _ _ h => h) (Or.inl ⟨by rfl, fun w hSw => ?hya7⟩) (by assumption) ?ra7
  case hya7 => (try dsimp only at hSw); go_simp; (try with_reducible rfl)
  (try simp only [Act.put, List.setIfInBounds_toArray, List.set_cons_zero, List.set_cons_succ])
  refine wpAnyH_take (i := 8) (oi := ({ dst := some 35, op := Op.move (Operand.tmp 2), type := 3, pos := "ref.go:87", after := #[], guard := none } : Oper)) (v := ?va8) rfl (by kernel_rfl) (by kernel_rfl) (by kernel_rfl) (fun _ _ _ h => h) (Or.inl ⟨by rfl, fun w hSw => ?hya8⟩) (by assumption) ?ra8
  case hya8 => (try dsimp only at hSw); go_simp; (try with_reducible rfl)
  (try simp only [Act.put, List.setIfInBounds_toArray, List.set_cons_zero, List.set_cons_succ])
  refine wpAnyH_take (i := 10) (oi := ({ dst := some 37, op := Op.nilCheck (Operand.tmp 27), type := 0, pos := "ref.go:87", after := #[{ on := 0, ground := Ground.data }], guard := none } : Oper)) (v := ?va10) rfl (by kernel_rfl) (by kernel_rfl) (by kernel_rfl) (fun _ _ _ h => h) (Or.inl ⟨by rfl, fun w hSw => ?hya10⟩) (by assumption) ?ra10
  case hya10 => (try dsimp only at hSw); go_simp; (try with_reducible rfl)
  (try simp only [Act.put, List.setIfInBounds_toArray, List.set_cons_zero, List.set_cons_succ])
  refine wpAnyH_take (i := 11) (oi := ({ dst := some 38, op := Op.fieldAddr 207 (Operand.tmp 37) 0, type := 0, pos := "ref.go:87", after := #[{ on := 10, ground := Ground.data }], guard := none } : Oper)) (v := ?va11) rfl (by kernel_rfl) (by kernel_rfl) (by kernel_rfl) (fun _ _ _ h => h) (Or.inl ⟨by rfl, fun w hSw => ?hya11⟩) (by assumption) ?ra11
  case hya11 => (try dsimp only at hSw); go_simp; (try with_reducible rfl)
  (try simp only [Act.put, List.setIfInBounds_toArray, List.set_cons_zero, List.set_cons_succ])
  refine wpAnyH_ready (rs := [9]) (by kernel_rfl) (by simp) ?_
  refine AllReadyH.cons (o := ({ dst := some 36, op := Op.call { callee := Callee.value (Operand.func 89), args := #[Operand.tmp 34, Operand.tmp 35], argTypes := #[202, 3] }, type := 202, pos := "ref.go:87", after := #[{ on := 7, ground := Ground.data }, { on := 8, ground := Ground.data }], guard := none } : Oper)) rfl (fun Kq hKq => ?_) AllReadyH.nil
  go_simp
  (refine HRE.out.mono ?_; rintro e w1 ⟨s1, ss1, rfl, ht1, hb1⟩; obtain ⟨A1, c1, hse, hc1, hc19⟩ := ht1.shape; rw [reh_len] at hse hc1; subst hse; have HT1 := Lib.hid ht1; have HB1 := Lib.hid hb1; have HCV1 := Lib.hid (HCV.out.turn hb1 hrl); clear ht1)
  refine hKq.out _ _ ?_ (fun hHeld => ?_)
  · exact (hb1.cell (p := ⟨rb, fk, none⟩) hrl).trans hHeld
  clear hKq Kq
  (try simp only [Act.put, List.setIfInBounds_toArray, List.set_cons_zero, List.set_cons_succ])
  refine wpAnyH_take (i := 12) (oi := ({ dst := some 39, op := Op.indexAddr 203 (Operand.tmp 38) (Operand.tmp 28), type := 0, pos := "ref.go:87", after := #[{ on := 11, ground := Ground.data }, { on := 1, ground := Ground.data }, { on := 0, ground := Ground.phase }, { on := 1, ground := Ground.phase }, { on := 2, ground := Ground.phase }, { on := 3, ground := Ground.phase }, { on := 4, ground := Ground.phase }, { on := 5, ground := Ground.phase }, { on := 6, ground := Ground.phase }, { on := 7, ground := Ground.phase }, { on := 8, ground := Ground.phase }, { on := 9, ground := Ground.phase }], guard := none } : Oper)) (v := ?va12) rfl (by kernel_rfl) (by kernel_rfl) (by kernel_rfl) (fun _ _ _ h => h) (Or.inl ⟨by rfl, fun w hSw => ?hya12⟩) (by assumption) ?ra12
  case hya12 => (try dsimp only at hSw); go_simp; (try with_reducible rfl)
  (try simp only [Act.put, List.setIfInBounds_toArray, List.set_cons_zero, List.set_cons_succ])
  refine wpAnyH_ready (rs := [13]) (by kernel_rfl) (by simp) ?_
  refine AllReadyH.cons (o := ({ dst := none, op := Op.store 202 (Operand.tmp 39) (Operand.tmp 36), type := 0, pos := "ref.go:87", after := #[{ on := 12, ground := Ground.data }, { on := 9, ground := Ground.data }, { on := 9, ground := Ground.chain }, { on := 0, ground := Ground.phase }, { on := 1, ground := Ground.phase }, { on := 2, ground := Ground.phase }, { on := 3, ground := Ground.phase }, { on := 4, ground := Ground.phase }, { on := 5, ground := Ground.phase }, { on := 6, ground := Ground.phase }, { on := 7, ground := Ground.phase }, { on := 8, ground := Ground.phase }, { on := 9, ground := Ground.phase }], guard := none } : Oper)) rfl (fun Kq hKq => ?_) AllReadyH.nil
  have hrl1 : rb < w1.heap.size := Nat.lt_of_lt_of_le hrl hb1.size; obtain ⟨k1, f1⟩ := HCV1.out tk (by omega); clear hb1; go_simp
  refine hKq.out _ _ ?_ (fun hHeld => ?_)
  · exact (World.cell?_setCell_other _ _ _ _ (by simp <;> omega)).trans hHeld
  clear hKq Kq
  (try simp only [Act.put, List.setIfInBounds_toArray, List.set_cons_zero, List.set_cons_succ])
  refine wpAnyH_done (by kernel_rfl) ?_ _
  have CV2 := Lib.hid (HCV1.out.set (i := tk) (by omega) (.slice A1 N c1))
  have ta : Turns (fun x => x = rb) w1 (w1.setCell ⟨rb, tk, none⟩ (.slice A1 N c1)) := (Turns.refl (fun x => x = rb) w1).setCell ⟨rb, tk, none⟩ _ rfl
  have hrl2 : rb < (w1.setCell ⟨rb, tk, none⟩ (.slice A1 N c1)).heap.size := Nat.lt_of_lt_of_le hrl1 ta.size
  have hsa : (w1.setCell ⟨rb, tk, none⟩ (.slice A1 N c1)).heap.size = w1.heap.size := by simp [World.setCell]
  generalize w1.setCell ⟨rb, tk, none⟩ (.slice A1 N c1) = w2 at *
  have TA := Lib.hid ta; have HSA := Lib.hid hsa
  clear ta k1 f1 hc0 hsa
  go_upto_region 4 with (fail)
  refine wp_region_held_drew (S := fun _ => True) (by kernel_rfl) ?_ (fun hHeld => ?_)
  · trivial
  refine wpAnyH_take (i := 0) (oi := ({ dst := some 40, op := Op.move (Operand.tmp 0), type := 52, pos := "ref.go:88", after := #[], guard := none } : Oper)) (v := ?vb0) rfl (by kernel_rfl) (by kernel_rfl) (by kernel_rfl) (fun _ _ _ h => h) (Or.inl ⟨by rfl, fun w hSw => ?hyb0⟩) (by assumption) ?rb0
  case hyb0 => (try dsimp only at hSw); go_simp; (try with_reducible rfl)
  (try simp only [Act.put, List.setIfInBounds_toArray, List.set_cons_zero, List.set_cons_succ])
  refine wpAnyH_take (i := 1) (oi := ({ dst := some 41, op := Op.move (Operand.tmp 2), type := 3, pos := "ref.go:88", after := #[], guard := none } : Oper)) (v := ?vb1) rfl (by kernel_rfl) (by kernel_rfl) (by kernel_rfl) (fun _ _ _ h => h) (Or.inl ⟨by rfl, fun w hSw => ?hyb1⟩) (by assumption) ?rb1
  case hyb1 => (try dsimp only at hSw); go_simp; (try with_reducible rfl)
  (try simp only [Act.put, List.setIfInBounds_toArray, List.set_cons_zero, List.set_cons_succ])
  refine wpAnyH_take (i := 2) (oi := ({ dst := some 42, op := Op.move (Operand.tmp 2), type := 3, pos := "ref.go:88", after := #[], guard := none } : Oper)) (v := ?vb2) rfl (by kernel_rfl) (by kernel_rfl) (by kernel_rfl) (fun _ _ _ h => h) (Or.inl ⟨by rfl, fun w hSw => ?hyb2⟩) (by assumption) ?rb2
  case hyb2 => (try dsimp only at hSw); go_simp; (try with_reducible rfl)
  (try simp only [Act.put, List.setIfInBounds_toArray, List.set_cons_zero, List.set_cons_succ])
  refine wpAnyH_take (i := 3) (oi := ({ dst := some 43, op := Op.move (Operand.tmp 3), type := 22, pos := "ref.go:88", after := #[], guard := none } : Oper)) (v := ?vb3) rfl (by kernel_rfl) (by kernel_rfl) (by kernel_rfl) (fun _ _ _ h => h) (Or.inl ⟨by rfl, fun w hSw => ?hyb3⟩) (by assumption) ?rb3
  case hyb3 => (try dsimp only at hSw); go_simp; (try with_reducible rfl)
  (try simp only [Act.put, List.setIfInBounds_toArray, List.set_cons_zero, List.set_cons_succ])
  refine wpAnyH_take (i := 5) (oi := ({ dst := some 45, op := Op.nilCheck (Operand.tmp 40), type := 0, pos := "ref.go:88", after := #[{ on := 0, ground := Ground.data }], guard := none } : Oper)) (v := ?vb5) rfl (by kernel_rfl) (by kernel_rfl) (by kernel_rfl) (fun _ _ _ h => h) (Or.inl ⟨by rfl, fun w hSw => ?hyb5⟩) (by assumption) ?rb5
  case hyb5 => (try dsimp only at hSw); go_simp; (try with_reducible rfl)
  (try simp only [Act.put, List.setIfInBounds_toArray, List.set_cons_zero, List.set_cons_succ])
  refine wpAnyH_take (i := 6) (oi := ({ dst := some 46, op := Op.fieldAddr 207 (Operand.tmp 45) 1, type := 0, pos := "ref.go:88", after := #[{ on := 5, ground := Ground.data }], guard := none } : Oper)) (v := ?vb6) rfl (by kernel_rfl) (by kernel_rfl) (by kernel_rfl) (fun _ _ _ h => h) (Or.inl ⟨by rfl, fun w hSw => ?hyb6⟩) (by assumption) ?rb6
  case hyb6 => (try dsimp only at hSw); go_simp; (try with_reducible rfl)
  (try simp only [Act.put, List.setIfInBounds_toArray, List.set_cons_zero, List.set_cons_succ])
  refine wpAnyH_ready (rs := [4]) (by kernel_rfl) (by simp) ?_
  refine AllReadyH.cons (o := ({ dst := some 44, op := Op.call { callee := Callee.value (Operand.func 90), args := #[Operand.tmp 42, Operand.tmp 43], argTypes := #[3, 22] }, type := 204, pos := "ref.go:88", after := #[{ on := 2, ground := Ground.data }, { on := 3, ground := Ground.data }], guard := none } : Oper)) rfl (fun Kq hKq => ?_) AllReadyH.nil
  go_simp
  (refine (HBG.out _).mono ?_; rintro e w3 ⟨s2, rfl, hr2, hb3⟩; obtain ⟨A2, c2, rfl, hc2, hc29⟩ := hr2.shape; have HR2 := Lib.hid hr2; have HB3 := Lib.hid hb3; have HCV3 : Hid (CV w3 rb _) := Lib.hid (CV.turn (w := w2.drew) CV2.out hb3 hrl2); have hrl3 : rb < w3.heap.size := Nat.lt_of_lt_of_le hrl2 hb3.size; clear hr2 hb3)
  refine hKq.out _ _ ?_ (fun hHeld => ?_)
  · trivial
  clear hKq Kq
  (try simp only [Act.put, List.setIfInBounds_toArray, List.set_cons_zero, List.set_cons_succ])
  refine wpAnyH_take (i := 7) (oi := ({ dst := some 47, op := Op.indexAddr 205 (Operand.tmp 46) (Operand.tmp 41), type := 0, pos := "ref.go:88", after := #[{ on := 6, ground := Ground.data }, { on := 1, ground := Ground.data }, { on := 0, ground := Ground.phase }, { on := 1, ground := Ground.phase }, { on := 2, ground := Ground.phase }, { on := 3, ground := Ground.phase }, { on := 4, ground := Ground.phase }], guard := none } : Oper)) (v := ?vb7) rfl (by kernel_rfl) (by kernel_rfl) (by kernel_rfl) (fun _ _ _ h => h) (Or.inl ⟨by rfl, fun w hSw => ?hyb7⟩) (by assumption) ?rb7
  case hyb7 => (try dsimp only at hSw); go_simp; (try with_reducible rfl)
  (try simp only [Act.put, List.setIfInBounds_toArray, List.set_cons_zero, List.set_cons_succ])
  refine wpAnyH_ready (rs := [8]) (by kernel_rfl) (by simp) ?_
  refine AllReadyH.cons (o := ({ dst := none, op := Op.store 204 (Operand.tmp 47) (Operand.tmp 44), type := 0, pos := "ref.go:88", after := #[{ on := 7, ground := Ground.data }, { on := 4, ground := Ground.data }, { on := 4, ground := Ground.chain }, { on := 0, ground := Ground.phase }, { on := 1, ground := Ground.phase }, { on := 2, ground := Ground.phase }, { on := 3, ground := Ground.phase }, { on := 4, ground := Ground.phase }], guard := none } : Oper)) rfl (fun Kq hKq => ?_) AllReadyH.nil
  obtain ⟨k3, f3⟩ := HCV3.out (9 + tk) (by omega); go_simp
  refine hKq.out _ _ ?_ (fun hHeld => ?_)
  · trivial
  clear hKq Kq
  (try simp only [Act.put, List.setIfInBounds_toArray, List.set_cons_zero, List.set_cons_succ])
  refine wpAnyH_done (by kernel_rfl) ?_ _
  have CV4 := Lib.hid (HCV3.out.set (i := 9 + tk) (by omega) (.slice A2 N c2))
  have tb : Turns (fun x => x = rb) w3 (w3.setCell ⟨rb, 9 + tk, none⟩ (.slice A2 N c2)) := (Turns.refl (fun x => x = rb) w3).setCell ⟨rb, 9 + tk, none⟩ _ rfl
  have hrl4 : rb < (w3.setCell ⟨rb, 9 + tk, none⟩ (.slice A2 N c2)).heap.size := Nat.lt_of_lt_of_le hrl3 tb.size
  have hsb : (w3.setCell ⟨rb, 9 + tk, none⟩ (.slice A2 N c2)).heap.size = w3.heap.size := by simp [World.setCell]
  generalize w3.setCell ⟨rb, 9 + tk, none⟩ (.slice A2 N c2) = w4 at *
  have TB := Lib.hid tb; have HSB := Lib.hid hsb
  clear tb k3 f3 hsb
  go_upto_region 5 with (fail)
  refine wp_region_held_drew (S := fun _ => True) (by kernel_rfl) ?_ (fun hHeld => ?_)
  · trivial
  refine wpAnyH_take (i := 0) (oi := ({ dst := some 48, op := Op.move (Operand.tmp 0), type := 52, pos := "ref.go:89", after := #[], guard := none } : Oper)) (v := ?vc0) rfl (by kernel_rfl) (by kernel_rfl) (by kernel_rfl) (fun _ _ _ h => h) (Or.inl ⟨by rfl, fun w hSw => ?hyc0⟩) (by assumption) ?rc0
  case hyc0 => (try dsimp only at hSw); go_simp; (try with_reducible rfl)
  (try simp only [Act.put, List.setIfInBounds_toArray, List.set_cons_zero, List.set_cons_succ])
  refine wpAnyH_take (i := 1) (oi := ({ dst := some 49, op := Op.move (Operand.tmp 1), type := 3, pos := "ref.go:89", after := #[], guard := none } : Oper)) (v := ?vc1) rfl (by kernel_rfl) (by kernel_rfl) (by kernel_rfl) (fun _ _ _ h => h) (Or.inl ⟨by rfl, fun w hSw => ?hyc1⟩) (by assumption) ?rc1
  case hyc1 => (try dsimp only at hSw); go_simp; (try with_reducible rfl)
  (try simp only [Act.put, List.setIfInBounds_toArray, List.set_cons_zero, List.set_cons_succ])
  refine wpAnyH_take (i := 2) (oi := ({ dst := some 50, op := Op.move (Operand.tmp 1), type := 3, pos := "ref.go:89", after := #[], guard := none } : Oper)) (v := ?vc2) rfl (by kernel_rfl) (by kernel_rfl) (by kernel_rfl) (fun _ _ _ h => h) (Or.inl ⟨by rfl, fun w hSw => ?hyc2⟩) (by assumption) ?rc2
  case hyc2 => (try dsimp only at hSw); go_simp; (try with_reducible rfl)
  (try simp only [Act.put, List.setIfInBounds_toArray, List.set_cons_zero, List.set_cons_succ])
  refine wpAnyH_take (i := 4) (oi := ({ dst := some 52, op := Op.nilCheck (Operand.tmp 48), type := 0, pos := "ref.go:89", after := #[{ on := 0, ground := Ground.data }], guard := none } : Oper)) (v := ?vc4) rfl (by kernel_rfl) (by kernel_rfl) (by kernel_rfl) (fun _ _ _ h => h) (Or.inl ⟨by rfl, fun w hSw => ?hyc4⟩) (by assumption) ?rc4
  case hyc4 => (try dsimp only at hSw); go_simp; (try with_reducible rfl)
  (try simp only [Act.put, List.setIfInBounds_toArray, List.set_cons_zero, List.set_cons_succ])
  refine wpAnyH_take (i := 5) (oi := ({ dst := some 53, op := Op.fieldAddr 207 (Operand.tmp 52) 0, type := 0, pos := "ref.go:89", after := #[{ on := 4, ground := Ground.data }], guard := none } : Oper)) (v := ?vc5) rfl (by kernel_rfl) (by kernel_rfl) (by kernel_rfl) (fun _ _ _ h => h) (Or.inl ⟨by rfl, fun w hSw => ?hyc5⟩) (by assumption) ?rc5
  case hyc5 => (try dsimp only at hSw); go_simp; (try with_reducible rfl)
  (try simp only [Act.put, List.setIfInBounds_toArray, List.set_cons_zero, List.set_cons_succ])
  refine wpAnyH_ready (rs := [3]) (by kernel_rfl) (by simp) ?_
  refine AllReadyH.cons (o := ({ dst := some 51, op := Op.call { callee := Callee.value (Operand.func 89), args := #[Operand.const (Value.slice none 0 0), Operand.tmp 50], argTypes := #[202, 3] }, type := 202, pos := "ref.go:89", after := #[{ on := 2, ground := Ground.data }], guard := none } : Oper)) rfl (fun Kq hKq => ?_) AllReadyH.nil
  go_simp
  (refine (HRN.out _).mono ?_; rintro e w5 ⟨s3, ss3, rfl, ht3, hb5⟩; obtain ⟨A3, c3, hse, hc3, hc39⟩ := ht3.shape; rw [List.length_replicate] at hse hc3; subst hse; have HT3 := Lib.hid ht3; have HB5 := Lib.hid hb5; have HCV5 : Hid (CV w5 rb _) := Lib.hid (CV.turn (w := w4.drew) CV4.out hb5 hrl4); clear ht3 hb5)
  refine hKq.out _ _ ?_ (fun hHeld => ?_)
  · trivial
  clear hKq Kq
  (try simp only [Act.put, List.setIfInBounds_toArray, List.set_cons_zero, List.set_cons_succ])
  refine wpAnyH_take (i := 6) (oi := ({ dst := some 54, op := Op.indexAddr 203 (Operand.tmp 53) (Operand.tmp 49), type := 0, pos := "ref.go:89", after := #[{ on := 5, ground := Ground.data }, { on := 1, ground := Ground.data }, { on := 0, ground := Ground.phase }, { on := 1, ground := Ground.phase }, { on := 2, ground := Ground.phase }, { on := 3, ground := Ground.phase }], guard := none } : Oper)) (v := ?vc6) rfl (by kernel_rfl) (by kernel_rfl) (by kernel_rfl) (fun _ _ _ h => h) (Or.inl ⟨by rfl, fun w hSw => ?hyc6⟩) (by assumption) ?rc6
  case hyc6 => (try dsimp only at hSw); go_simp; (try with_reducible rfl)
  (try simp only [Act.put, List.setIfInBounds_toArray, List.set_cons_zero, List.set_cons_succ])
  refine wpAnyH_ready (rs := [7]) (by kernel_rfl) (by simp) ?_
  refine AllReadyH.cons (o := ({ dst := none, op := Op.store 202 (Operand.tmp 54) (Operand.tmp 51), type := 0, pos := "ref.go:89", after := #[{ on := 6, ground := Ground.data }, { on := 3, ground := Ground.data }, { on := 3, ground := Ground.chain }, { on := 0, ground := Ground.phase }, { on := 1, ground := Ground.phase }, { on := 2, ground := Ground.phase }, { on := 3, ground := Ground.phase }], guard := none } : Oper)) rfl (fun Kq hKq => ?_) AllReadyH.nil
  obtain ⟨k5, f5⟩ := HCV5.out fk (by omega); go_simp
  refine hKq.out _ _ ?_ (fun hHeld => ?_)
  · trivial
  clear hKq Kq
  (try simp only [Act.put, List.setIfInBounds_toArray, List.set_cons_zero, List.set_cons_succ])
  refine wpAnyH_done (by kernel_rfl) ?_ _
  have CV6 := Lib.hid (HCV5.out.set (i := fk) (by omega) (.slice A3 Nf c3))
  have tc : Turns (fun x => x = rb) w5 (w5.setCell ⟨rb, fk, none⟩ (.slice A3 Nf c3)) := (Turns.refl (fun x => x = rb) w5).setCell ⟨rb, fk, none⟩ _ rfl
  have hsc : (w5.setCell ⟨rb, fk, none⟩ (.slice A3 Nf c3)).heap.size = w5.heap.size := by simp [World.setCell]
  generalize w5.setCell ⟨rb, fk, none⟩ (.slice A3 Nf c3) = w6 at *
  have TC := Lib.hid tc; have HSC := Lib.hid hsc
  clear tc k5 f5 hsc
  go_wp2_with fail
  go_ret
  refine ⟨rfl, ?_⟩
  have H := HH.out
  have hl := HL.out
  have htab := HT1.out
  have htab3 := HT3.out
  have hd4 : w4.drew.heap.size = w4.heap.size := rfl
  have s1 : w.heap.size ≤ w1.heap.size := HB1.out.size
  have s2 : w2.heap.size = w1.heap.size := HSA.out
  have s3 : w2.heap.size ≤ w3.heap.size := HB3.out.size
  have s4 : w4.heap.size = w3.heap.size := HSB.out
  have s5 : w4.heap.size ≤ w5.heap.size := HB5.out.size
  have s6 : w6.heap.size = w5.heap.size := HSC.out
  have t56 := TC.out
  have t46 : Turns (fun x => x = rb) w4 w6 := ((Turns.refl (fun x => x = rb) w4).drew.trans (Turns.of_below (S := fun x => x = rb) HB5.out) (fun _ _ e => e)).trans t56 (fun _ _ e => e)
  have t36 := TB.out.trans t46 (fun _ _ e => e)
  have t26 : Turns (fun x => x = rb) w2 w6 := ((Turns.refl (fun x => x = rb) w2).drew.trans (Turns.of_below (S := fun x => x = rb) HB3.out) (fun _ _ e => e)).trans t36 (fun _ _ e => e)
  have t16 := TA.out.trans t26 (fun _ _ e => e)
  have t06 : Turns (fun x => x = rb) w w6 := ((Turns.refl (fun x => x = rb) w).drew.trans (Turns.of_below (S := fun x => x = rb) HB1.out) (fun _ _ e => e)).trans t16 (fun _ _ e => e)
  have l1 : ∀ x r, NewT (.slice A1 N c1) ss1 (tk : Int) x r → w.heap.size ≤ x ∧ x < w1.heap.size := fun x r e => NewT.lt htab e
  have l2 : ∀ x, (Value.slice A2 N c2).ownBlock = some x → w2.heap.size ≤ x ∧ x < w3.heap.size := fun x e => HR2.out.lt x e
  have l3 : ∀ x r, NewT (.slice A3 Nf c3) ss3 (fk : Int) x r → w4.heap.size ≤ x ∧ x < w5.heap.size := fun x r e => NewT.lt htab3 e
  obtain ⟨own', o1, o2, o3⟩ := own_new own (fun x r => NewT (.slice A1 N c1) ss1 (tk : Int) x r ∨ ((Value.slice A2 N c2).ownBlock = some x ∧ r = .tim (tk : Int)) ∨ NewT (.slice A3 Nf c3) ss3 (fk : Int) x r) (fun x => own x = some (.tab (fk : Int)) ∨ ∃ i, own x = some (.q (fk : Int) i)) w.heap.size (fun x r r' e e' => by
    rcases e with h1 | ⟨h1, rfl⟩ | h1
    · rcases e' with h2 | ⟨h2, rfl⟩ | h2
      · exact NewT.fun htab h1 h2
      · have := l1 x _ h1; have := l2 x h2; omega
      · have := l1 x _ h1; have := l3 x _ h2; omega
    · rcases e' with h2 | ⟨h2, rfl⟩ | h2
      · have := l1 x _ h2; have := l2 x h1; omega
      · rfl
      · have := l3 x _ h2; have := l2 x h1; omega
    · rcases e' with h2 | ⟨h2, rfl⟩ | h2
      · have := l1 x _ h2; have := l3 x _ h1; omega
      · have := l2 x h2; have := l3 x _ h1; omega
      · exact NewT.fun htab3 h1 h2) (fun x r e => by
    rcases e with h1 | ⟨h1, rfl⟩ | h1
    · exact (l1 x _ h1).1
    · have := l2 x h1; omega
    · have := l3 x _ h1; omega) (fun x r e => (H.fp x r e).2)
  have hkeep : ∀ x r, own x = some r → r ≠ .tab (fk : Int) → (∀ i, r ≠ .q (fk : Int) i) → own' x = some r := fun x r e hr hr2 => o2 x r e (fun hd => by
    rcases hd with hd | ⟨i, hd⟩
    · exact hr (by rw [e] at hd; simpa using hd)
    · exact hr2 i (by rw [e] at hd; simpa using hd))
  have hMt : grown M h N (fk : Int) (tk : Int) now (tk : Int) = fresh now (reh h N E) := by unfold grown; rw [upd_same, hE]
  have hMf : grown M h N (fk : Int) (tk : Int) now (fk : Int) = hollow (M (fk : Int)) := by unfold grown; rw [upd_ne _ _ (by omega), upd_same]
  have hMo : ∀ b : Int, b ≠ tk → b ≠ fk → grown M h N (fk : Int) (tk : Int) now b = M b := fun b e1 e2 => by unfold grown; rw [upd_ne _ _ e1, upd_ne _ _ e2]
  refine ⟨own', ⟨rb, upd (upd Q tk (.slice A1 N c1)) fk (.slice A3 Nf c3), upd T tk (.slice A2 N c2), upd (upd V tk (fun i => (ss1[i]?).getD nilS)) fk (fun i => (ss3[i]?).getD nilS), ?_⟩, t06.mono (fun x _ e => by subst e; exact ⟨_, H.os⟩), fun x r e => by
    rcases o3 x r e with h' | h1 | ⟨h1, rfl⟩ | h1
    · exact .inl ⟨r, h'⟩
    · exact .inr (l1 x _ h1).1
    · have := l2 x h1; exact .inr (by omega)
    · have := l3 x _ h1; exact .inr (by omega)⟩
  have hbase := (H.fp rb _ H.os).1
  refine ⟨fun x r e => ?_, rfl, hkeep rb _ H.os (by simp) (by simp), fun j hj => ?_, fun j hj => ?_, fun b hb => ?_, fun j hj => ?_, fun j hj => ?_, fun j i hi => ?_, fun j x hj e => ?_, fun j x hj e => ?_, fun j i x hi e => ?_⟩
  · rcases o3 x r e with h' | h1 | ⟨h1, rfl⟩ | h1
    · have := H.fp x r h'; omega
    · have := l1 x _ h1; omega
    · have := l2 x h1; omega
    · have := l3 x _ h1; omega
  · refine ⟨(CV6.out j (by omega)).1.trans (congrArg some ?_), (CV6.out j (by omega)).2⟩
    by_cases e1 : j = fk
    · subst e1; rw [upd_same, upd_same]
    · rw [upd_ne _ _ e1, upd_ne _ _ e1, upd_ne _ _ (by omega)]
      by_cases e2 : j = tk
      · subst e2; rw [upd_same, upd_same]
      · rw [upd_ne _ _ e2, upd_ne _ _ e2, if_pos hj]
  · refine ⟨(CV6.out (9 + j) (by omega)).1.trans (congrArg some ?_), (CV6.out (9 + j) (by omega)).2⟩
    rw [upd_ne _ _ (show 9 + j ≠ fk by omega)]
    by_cases e2 : j = tk
    · subst e2; rw [upd_same, upd_same]
    · rw [upd_ne _ _ (show 9 + j ≠ 9 + tk by omega), upd_ne _ _ (show 9 + j ≠ tk by omega), upd_ne _ _ e2, if_neg (by omega), show 9 + j - 9 = j by omega]
  · rw [hMo b (by omega) (by omega)]
    exact H.no b hb
  · by_cases e1 : j = fk
    · subst e1
      rw [upd_same, upd_same, hMf, hollow_len, hl]
      have := tab_qflat htab3
      rw [List.length_replicate] at this
      exact (this.keep t56 (fun x e e2 => by have := htab3.row.lt x e; omega)).base (Nat.zero_le _)
    · rw [upd_ne _ _ e1, upd_ne _ _ e1]
      by_cases e2 : j = tk
      · subst e2
        rw [upd_same, upd_same, hMt, fresh_len, reh_len]
        have := tab_qflat htab
        rw [reh_len] at this
        exact (this.keep t16 (fun x e e2 => by have := htab.row.lt x e; omega)).base (Nat.zero_le _)
      · rw [upd_ne _ _ e2, upd_ne _ _ e2, hMo _ (by omega) (by omega)]
        exact (H.hq j hj).keep t06 (fun x e e3 => H.ne (H.oq j x hj e) H.os (by simp) e3)
  · by_cases e2 : j = tk
    · subst e2
      rw [upd_same, hMt, fresh_len, tflat_fresh, reh_len]
      exact (HR2.out.keep t36 (fun x e e2 => by have := l2 x e; omega)).base (Nat.zero_le _)
    · rw [upd_ne _ _ e2]
      by_cases e1 : j = fk
      · subst e1
        rw [hMf, hollow_len, tflat_hollow]
        exact (H.ht j hj).keep t06 (fun x e e3 => H.ne (H.ot j x hj e) H.os (by simp) e3)
      · rw [hMo _ (by omega) (by omega)]
        exact (H.ht j hj).keep t06 (fun x e e3 => H.ne (H.ot j x hj e) H.os (by simp) e3)
  · by_cases e1 : j = fk
    · subst e1
      rw [hMf, hollow_len] at hi
      rw [upd_same, hMf, hollow_at _ hi]
      obtain ⟨v, hv, hr, _⟩ := htab3.qs i (by rw [List.length_replicate]; omega)
      rw [rep_at] at hr
      rw [hv]
      exact (hr.keep t56 (fun x e e2 => by have := htab3.lt hv e; omega)).base (Nat.zero_le _)
    · rw [upd_ne _ _ e1]
      by_cases e2 : j = tk
      · subst e2
        rw [hMt, fresh_len] at hi
        rw [upd_same, hMt, fresh_at _ _ hi]
        obtain ⟨v, hv, hr, _⟩ := htab.qs i hi
        rw [hv]
        exact (hr.keep t16 (fun x e e2 => by have := htab.lt hv e; omega)).base (Nat.zero_le _)
      · rw [hMo _ (by omega) (by omega)] at hi ⊢
        rw [upd_ne _ _ e2]
        exact (H.hv j i hi).keep t06 (fun x e e3 => H.ne (H.ov j i x hi e) H.os (by simp) e3)
  · by_cases e1 : j = fk
    · subst e1
      rw [upd_same] at e
      exact o1 _ _ (.inr (.inr (.inl ⟨e, rfl⟩)))
    · rw [upd_ne _ _ e1] at e
      by_cases e2 : j = tk
      · subst e2
        rw [upd_same] at e
        exact o1 _ _ (.inl (.inl ⟨e, rfl⟩))
      · rw [upd_ne _ _ e2] at e
        exact hkeep x _ (H.oq j x hj e) (by simp; omega) (by simp)
  · by_cases e2 : j = tk
    · subst e2
      rw [upd_same] at e
      exact o1 _ _ (.inr (.inl ⟨e, rfl⟩))
    · rw [upd_ne _ _ e2] at e
      exact hkeep x _ (H.ot j x hj e) (by simp) (by simp)
  · by_cases e1 : j = fk
    · subst e1
      rw [hMf, hollow_len] at hi
      rw [upd_same] at e
      obtain ⟨v, hv, hr, _⟩ := htab3.qs i (by rw [List.length_replicate]; omega)
      rw [hv] at e
      exact o1 _ _ (.inr (.inr (.inr ⟨i, v, hv, e, rfl⟩)))
    · rw [upd_ne _ _ e1] at e
      by_cases e2 : j = tk
      · subst e2
        rw [hMt, fresh_len] at hi
        rw [upd_same] at e
        obtain ⟨v, hv, hr, _⟩ := htab.qs i hi
        rw [hv] at e
        exact o1 _ _ (.inl (.inr ⟨i, v, hv, e, rfl⟩))
      · rw [hMo _ (by omega) (by omega)] at hi
        rw [upd_ne _ _ e2] at e
        exact hkeep x _ (H.ov j i x hi e) (by simp) (by simp; omega)
end
end Go.Proofs.YtdfnocopakbhoaaGreatDoor.S10
namespace Go.Proofs.YtdfnocopakbhoaaGreatDoor.S10
open Go.Proofs.YtdfnocopakbhoaaGreatDoor
open Go.RowKit

theorem info79 : ∃ i, Tryz.prog.info? 141 = some i ∧ i.zero = some (.agg #[.int .i64 0, .int .i64 0]) ∧ i.size = 2 ∧ i.bytes = 16 := info_of (by kernel_rfl)
end Go.Proofs.YtdfnocopakbhoaaGreatDoor.S10
namespace Go.Proofs.YtdfnocopakbhoaaGreatDoor.S10
open Go.Proofs.YtdfnocopakbhoaaGreatDoor
open Go.RowKit

theorem otherP_any (b i : Int) (w : World) : Calls Tryz.prog 54 #[.agg #[.int .i64 b, .int .i64 i]] w fun e w' => e = .returned (.agg #[.int .i64 b, .int .i64 i]) ∧ Below w.heap.size w w' := by
  go_enter Tryz.func54, Tryz.ntmps54
  go_wp2
  exact bodyPost_ret (v := .agg #[.int .i64 b, .int .i64 i]) (by simp [results, Tryz.results54, go_sem]) rfl ⟨rfl, by first | exact ((Below.refl _ w).alloc (Nat.le_refl _) _).alloc (by simp) _ | exact below1 w _⟩
theorem otherT_any (a f : Int) (w : World) : Calls Tryz.prog 97 #[.agg #[.int .u64 a, .int .u64 f]] w fun e w' => e = .returned (.agg #[.int .u64 a, .int .u64 f]) ∧ Below w.heap.size w w' := by
  go_enter Tryz.func97, Tryz.ntmps97
  go_wp2
  exact bodyPost_ret (v := .agg #[.int .u64 a, .int .u64 f]) (by simp [results, Tryz.results97, go_sem]) rfl ⟨rfl, by first | exact ((Below.refl _ w).alloc (Nat.le_refl _) _).alloc (by simp) _ | exact below1 w _⟩
theorem pflat_get : ∀ (D : List (Int × Int)) (i : Nat), i < D.length → (pflat D)[i * 2]? = some (.int .i64 D[i]!.1) ∧ (pflat D)[i * 2 + 1]? = some (.int .i64 D[i]!.2)
  | [], i, h => by simp at h
  | e :: r, 0, _ => ⟨rfl, rfl⟩
  | e :: r, i + 1, h => by
    have hr := pflat_get r i (by simpa using h)
    have e3 : pflat (e :: r) = .int .i64 e.1 :: .int .i64 e.2 :: pflat r := rfl
    have e4 : (e :: r)[i + 1]! = r[i]! := by simp
    rw [e3, e4, show (i + 1) * 2 = i * 2 + 2 by omega, show i * 2 + 2 + 1 = i * 2 + 1 + 2 by omega]
    exact hr
theorem Rd.pair {w : World} {base : Nat} {A : Option Addr} {D : List (Int × Int)} (h : Rd w base A (pflat D)) {i : Nat} (hi : i < D.length) : ∃ g o, A = some ⟨g, o, none⟩ ∧ g < base ∧
    w.cell? ⟨g, o + i * 2, none⟩ = some (.int .i64 D[i]!.1) ∧ w.cell? ⟨g, o + i * 2 + 1, none⟩ = some (.int .i64 D[i]!.2) := by
  obtain ⟨g, o, e, hg, hl⟩ := h (by rw [pflat_len]; omega)
  obtain ⟨h0, h1⟩ := pflat_get D i hi
  exact ⟨g, o, e, hg, hl _ _ h0, by have := hl _ _ h1; rwa [← Nat.add_assoc] at this⟩
theorem neqP (a b c d : Int) (w : World) : (binOp .neq 141 (.agg #[.int .i64 a, .int .i64 b]) (.agg #[.int .i64 c, .int .i64 d])).run Tryz.prog w = .ok (.bool (!decide (a = c ∧ b = d))) w := by
  simp [go_sem, Tryz.underlying141]
  by_cases h1 : a = c <;> by_cases h2 : b = d <;> simp [h1, h2]
theorem neqT (a b c d : Int) (w : World) : (binOp .neq 148 (.agg #[.int .u64 a, .int .u64 b]) (.agg #[.int .u64 c, .int .u64 d])).run Tryz.prog w = .ok (.bool (!decide (a = c ∧ b = d))) w := by
  simp [go_sem, Tryz.underlying148]
  by_cases h1 : a = c <;> by_cases h2 : b = d <;> simp [h1, h2]
theorem neqT33 (a b c d : Int) (w : World) : (binOp .neq 138 (.agg #[.int .u64 a, .int .u64 b]) (.agg #[.int .u64 c, .int .u64 d])).run Tryz.prog w = .ok (.bool (!decide (a = c ∧ b = d))) w := by
  simp [go_sem, Tryz.underlying138]
  by_cases h1 : a = c <;> by_cases h2 : b = d <;> simp [h1, h2]
theorem eqlT33 (a b c d : Int) (w : World) : (binOp .eql 138 (.agg #[.int .u64 a, .int .u64 b]) (.agg #[.int .u64 c, .int .u64 d])).run Tryz.prog w = .ok (.bool (decide (a = c ∧ b = d))) w := by
  simp [go_sem, Tryz.underlying138]
  by_cases h1 : a = c <;> by_cases h2 : b = d <;> simp [h1, h2]
theorem eqlP30 (a b c d : Int) (w : World) : (binOp .eql 69 (.agg #[.int .i64 a, .int .i64 b]) (.agg #[.int .i64 c, .int .i64 d])).run Tryz.prog w = .ok (.bool (decide (a = c ∧ b = d))) w := by
  simp [go_sem, Tryz.underlying69]
  by_cases h1 : a = c <;> by_cases h2 : b = d <;> simp [h1, h2]
theorem keep2 {wr W W' : World} {g o : Nat} {d : Int × Int} (h1 : Below wr.heap.size wr W) (hb : Below W.heap.size W W') (hg : g < wr.heap.size) (h : W.cell? ⟨g, o, none⟩ = some (.int .i64 d.1) ∧ W.cell? ⟨g, o + 1, none⟩ = some (.int .i64 d.2)) :
    W'.cell? ⟨g, o, none⟩ = some (.int .i64 d.1) ∧ W'.cell? ⟨g, o + 1, none⟩ = some (.int .i64 d.2) :=
  ⟨(hb.cell (p := ⟨g, o, none⟩) (Nat.lt_of_lt_of_le hg h1.size)).trans h.1, (hb.cell (p := ⟨g, o + 1, none⟩) (Nat.lt_of_lt_of_le hg h1.size)).trans h.2⟩
end Go.Proofs.YtdfnocopakbhoaaGreatDoor.S10
namespace Go.Proofs.YtdfnocopakbhoaaGreatDoor.S10
open Go.Proofs.YtdfnocopakbhoaaGreatDoor

/-- The entries of a key, as they stand. -/
def kf (key : Int) (E : List Ent) : List Ent := E.filter fun e => e.k == key
theorem kf_le (key : Int) (E : List Ent) : (kf key E).length ≤ E.length := List.length_filter_le _ _
theorem kf_snoc (key : Int) (E : List Ent) (e : Ent) : kf key (E ++ [e]) = if e.k = key then kf key E ++ [e] else kf key E := by
  unfold kf
  rw [List.filter_append]
  by_cases hi : e.k = key
  · simp [hi]
  · simp [hi]
theorem kf_bk (h : Nat → Nat) (k i : Nat) (E : List Ent) : kf (k : Int) (bk h i E) = if i = h k then kf (k : Int) E else [] := by
  unfold kf bk
  rw [List.filter_filter]
  by_cases e : i = h k
  · rw [if_pos e]
    refine List.filter_congr fun x _ => ?_
    by_cases hx : x.k = (k : Int)
    · simp [hx, e]
    · simp [hx]
  · rw [if_neg e, List.filter_eq_nil_iff]
    intro x _ hx
    simp at hx
    obtain ⟨h1, h2⟩ := hx
    rw [h1, Int.toNat_natCast] at h2
    exact e h2.symm
theorem kf_flat (key : Int) : ∀ Ls : List (List Ent), kf key Ls.flatten = (Ls.map (kf key)).flatten
  | [] => rfl
  | l :: r => by
    rw [List.flatten_cons, List.map_cons, List.flatten_cons, ← kf_flat key r]
    unfold kf
    rw [List.filter_append]
theorem one_of (L : List Ent) (a : Nat) : ∀ n, ((List.range n).map fun i => if i = a then L else []).flatten = if a < n then L else []
  | 0 => by simp
  | n + 1 => by
    rw [List.range_succ, List.map_append, List.flatten_append, one_of L a n]
    simp only [List.map_cons, List.map_nil, List.flatten_cons, List.flatten_nil, List.append_nil]
    by_cases h1 : a < n
    · rw [if_pos h1, if_neg (by omega), if_pos (by omega), List.append_nil]
    · by_cases h2 : n = a
      · rw [if_neg h1, if_pos h2, if_pos (by omega), List.nil_append]
      · rw [if_neg h1, if_neg h2, if_neg (by omega), List.nil_append]
/-- Of each key who stood, and in which order. -/
theorem kf_reh (h : Nat → Nat) (n k : Nat) (E : List Ent) (hk : h k < n) : kf (k : Int) (reh h n E).flatten = kf (k : Int) E := by
  rw [kf_flat]
  unfold reh
  rw [List.map_map]
  have : (kf (k : Int) ∘ fun i => bk h i E) = fun i => if i = h k then kf (k : Int) E else [] := funext fun i => kf_bk h k i E
  rw [this, one_of, if_pos hk]
theorem reh_below (h : Nat → Nat) (E : List Ent) : ∀ n, (reh h n E).flatten.length = (E.filter fun e => decide (h e.k.toNat < n)).length
  | 0 => by
    have : (E.filter fun e => decide (h e.k.toNat < 0)) = [] := List.filter_eq_nil_iff.2 (by simp)
    rw [this]; rfl
  | n + 1 => by
    have hs : reh h (n + 1) E = reh h n E ++ [bk h n E] := by unfold reh; rw [List.range_succ, List.map_append]; rfl
    rw [hs, List.flatten_append, List.length_append, reh_below h E n]
    simp only [List.flatten_cons, List.flatten_nil, List.append_nil]
    unfold bk
    clear hs
    induction E with
    | nil => rfl
    | cons e r ih =>
      simp only [List.filter_cons]
      by_cases h1 : h e.k.toNat < n
      · simp only [h1, show h e.k.toNat < n + 1 by omega, show ¬ h e.k.toNat = n by omega, decide_true, if_true, beq_iff_eq, if_false, List.length_cons]
        omega
      · by_cases h2 : h e.k.toNat = n
        · simp only [h2, show ¬ n < n by omega, show n < n + 1 by omega, decide_true, decide_false, if_true, beq_self_eq_true, List.length_cons]
          simp only [Bool.false_eq_true, if_false]
          omega
        · simp only [h1, h2, show ¬ h e.k.toNat < n + 1 by omega, decide_false, beq_iff_eq, if_false, Bool.false_eq_true]
          exact ih
/-- Nobody comes, or goes. -/
theorem reh_total (h : Nat → Nat) (n : Nat) (E : List Ent) (hk : Keys E) (hlt : ∀ k, k < 4294967296 → h k < n) : (reh h n E).flatten.length = E.length := by
  rw [reh_below]
  congr 1
  rw [List.filter_eq_self]
  intro e he
  obtain ⟨k, hk1, hk2⟩ := hk e he
  rw [hk1, Int.toNat_natCast]
  simpa using hlt k hk2
end Go.Proofs.YtdfnocopakbhoaaGreatDoor.S10
namespace Go.Proofs.YtdfnocopakbhoaaGreatDoor.S10
open Go.Proofs.YtdfnocopakbhoaaGreatDoor
open Go.RowKit

/-- A model that may be: at most N entries a table. -/
structure Good (M : Int → List Bk) (N : Nat) : Prop where
  no : ∀ b, (b < 2 ∨ 8 < b) → M b = []
  size : ∀ b, M b ≠ [] → (M b).length = 2 ^ b.toNat
  keys : ∀ b, Keys ((M b).map Bk.q).flatten
  few : ∀ b, ((M b).map Bk.q).flatten.length ≤ N
theorem Good.len {M : Int → List Bk} {N : Nat} (h : Good M N) (b : Int) : (M b).length ≤ 256 := by
  by_cases h0 : M b = []
  · rw [h0]; simp
  · rw [h.size b h0]
    have : b.toNat ≤ 8 := by
      by_cases h1 : b < 2 ∨ 8 < b
      · exact absurd (h.no b h1) h0
      · omega
    calc 2 ^ b.toNat ≤ 2 ^ 8 := Nat.pow_le_pow_right (by omega) this
      _ = 256 := rfl
theorem Good.mono {M : Int → List Bk} {N N' : Nat} (h : Good M N) (hn : N ≤ N') : Good M N' := ⟨h.no, h.size, h.keys, fun b => Nat.le_trans (h.few b) hn⟩
theorem mem_q {L : List Bk} {i : Nat} (hi : i < L.length) {e : Ent} (he : e ∈ L[i]!.q) : e ∈ (L.map Bk.q).flatten := by
  rw [List.mem_flatten]
  rw [getElem!_pos L i hi] at he
  exact ⟨_, List.mem_map.2 ⟨_, List.getElem_mem hi, rfl⟩, he⟩
theorem q_len {L : List Bk} {i : Nat} (hi : i < L.length) : L[i]!.q.length ≤ (L.map Bk.q).flatten.length := by
  have h1 := cum_le (L.map Bk.q) (i + 1) (by rw [List.length_map]; omega)
  rw [cum_succ (by rw [List.length_map]; exact hi), map_at L hi] at h1
  omega
theorem flat_set (L : List Bk) {i : Nat} (hi : i < L.length) (x : Bk) : ((L.set i x).map Bk.q).flatten.length + L[i]!.q.length = (L.map Bk.q).flatten.length + x.q.length := by
  have h1 : L = L.take i ++ L[i]! :: L.drop (i + 1) := by
    rw [getElem!_pos L i hi, List.getElem_cons_drop, List.take_append_drop]
  have h2 : L.set i x = L.take i ++ x :: L.drop (i + 1) := by rw [List.set_eq_take_append_cons_drop, if_pos hi]
  have h3 : (L.map Bk.q).flatten.length = ((L.take i ++ L[i]! :: L.drop (i + 1)).map Bk.q).flatten.length := by rw [← h1]
  rw [h3, h2]
  simp only [List.map_append, List.map_cons, List.flatten_append, List.flatten_cons, List.length_append]
  omega
theorem mem_set {L : List Bk} {i : Nat} (hi : i < L.length) {x : Bk} {e : Ent} (he : e ∈ ((L.set i x).map Bk.q).flatten) : e ∈ (L.map Bk.q).flatten ∨ e ∈ x.q := by
  rw [List.mem_flatten] at he
  obtain ⟨l, hl, he⟩ := he
  rw [List.mem_map] at hl
  obtain ⟨y, hy, rfl⟩ := hl
  rcases List.mem_or_eq_of_mem_set hy with h | rfl
  · exact .inl (List.mem_flatten.2 ⟨_, List.mem_map.2 ⟨_, h, rfl⟩, he⟩)
  · exact .inr he
theorem Good.put {M : Int → List Bk} {N : Nat} (h : Good M N) (b : Int) {i : Nat} (hi : i < (M b).length) (x : Bk) (hk : Keys x.q) (X : Nat) (hx : x.q.length ≤ (M b)[i]!.q.length + X) : Good (upd M b ((M b).set i x)) (N + X) := by
  refine ⟨upd_no h.no b i x, fun b' hb => ?_, fun b' => ?_, fun b' => ?_⟩
  · rw [upd_len]
    refine h.size b' (fun e => hb ?_)
    have := upd_len M b i x b'
    rw [e] at this
    exact List.eq_nil_of_length_eq_zero (by simpa using this)
  · by_cases e : b' = b
    · subst e
      rw [upd_same]
      intro y hy
      rcases mem_set hi hy with h' | h'
      · exact h.keys b' y h'
      · exact hk y h'
    · rw [upd_ne _ _ e]; exact h.keys b'
  · by_cases e : b' = b
    · subst e
      rw [upd_same]
      have h1 := flat_set (M b') hi x
      have h2 := h.few b'
      omega
    · rw [upd_ne _ _ e]
      have := h.few b'
      omega
theorem hollow_flat (L : List Bk) : ((hollow L).map Bk.q).flatten = [] := by
  rw [List.flatten_eq_nil_iff]
  intro l hl
  simp only [hollow, List.map_map, List.mem_map] at hl
  obtain ⟨x, _, rfl⟩ := hl
  rfl
theorem fresh_q (now : Int) (Ls : List (List Ent)) : (fresh now Ls).map Bk.q = Ls := by
  simp only [fresh, List.map_map]
  exact (List.map_congr_left (fun _ _ => rfl)).trans (List.map_id _)
theorem keys_reh {h : Nat → Nat} {E : List Ent} (hk : Keys E) (n : Nat) : Keys (reh h n E).flatten := fun e he => by
  rw [List.mem_flatten] at he
  obtain ⟨l, hl, he⟩ := he
  simp only [reh, List.mem_map] at hl
  obtain ⟨i, _, rfl⟩ := hl
  exact hk e (List.mem_filter.1 he).1
theorem Good.grow {M : Int → List Bk} {N : Nat} (hg : Good M N) {fr tg : Int} (now : Int) (h1 : 2 ≤ fr) (h2 : fr < tg) (h3 : tg ≤ 8) {h : Nat → Nat} (hlt : ∀ k, k < 4294967296 → h k < 2 ^ tg.toNat) : Good (grown M h (2 ^ tg.toNat) fr tg now) N := by
  unfold grown
  refine ⟨fun b hb => ?_, fun b hb => ?_, fun b => ?_, fun b => ?_⟩
  · rw [upd_ne _ _ (by omega), upd_ne _ _ (by omega)]; exact hg.no b hb
  · by_cases e : b = tg
    · subst e
      rw [upd_same, fresh_len, reh_len]
    · rw [upd_ne _ _ e] at hb ⊢
      by_cases e2 : b = fr
      · subst e2
        rw [upd_same] at hb ⊢
        rw [hollow_len]
        exact hg.size b (fun e3 => hb (by rw [e3]; rfl))
      · rw [upd_ne _ _ e2] at hb ⊢
        exact hg.size b hb
  · by_cases e : b = tg
    · subst e
      rw [upd_same, fresh_q]
      exact keys_reh (hg.keys fr) _
    · rw [upd_ne _ _ e]
      by_cases e2 : b = fr
      · subst e2
        rw [upd_same, hollow_flat]
        intro e he; simp at he
      · rw [upd_ne _ _ e2]; exact hg.keys b
  · by_cases e : b = tg
    · subst e
      rw [upd_same, fresh_q, reh_total h _ _ (hg.keys fr) hlt]
      exact hg.few fr
    · rw [upd_ne _ _ e]
      by_cases e2 : b = fr
      · subst e2
        rw [upd_same, hollow_flat]; simp
      · rw [upd_ne _ _ e2]; exact hg.few b
theorem good_first (now : Int) : Good (M0 now) 0 := by
  have h2 : M0 now 2 = fresh now (List.replicate 4 []) := upd_same _ _ _
  have hno : ∀ b, b ≠ 2 → M0 now b = [] := fun b hb => upd_ne _ _ hb
  have hfl : (List.replicate 4 ([] : List Ent)).flatten = [] := rfl
  refine ⟨fun b hb => hno b (by omega), fun b hb => ?_, fun b => ?_, fun b => ?_⟩
  · by_cases e : b = 2
    · subst e; rw [h2, fresh_len]; rfl
    · exact absurd (hno b e) hb
  · by_cases e : b = 2
    · subst e; rw [h2, fresh_q, hfl]; intro e he; simp at he
    · rw [hno b e]; intro e he; simp at he
  · by_cases e : b = 2
    · subst e; rw [h2, fresh_q, hfl]; simp
    · rw [hno b e]; simp
theorem St.mono {w : World} {base : Nat} {own : Nat → Option Role} {s : Value} {n n' : Nat} {M : Int → List Bk} (h : St w base own s n M) (hn : n ≤ n') : St w base own s n' M := by
  obtain ⟨sb, mb, F, V, h⟩ := h
  obtain ⟨D, h1, h2, h3⟩ := h.hm
  exact ⟨sb, mb, F, V, h.fp, h.hs, h.hc, h.os, ⟨D, h1.mono hn, h2, h3⟩, h.om, h.ht, h.ot, h.hq, h.oq⟩

/-- What a call does to a set, and to the document's. -/
def StC (f : Nat) (args : Value → List Value) (v : Value) (W : World) (base : Nat) (own : Nat → Option Role) (s : Value) (n' : Nat) (M' : Int → List Bk) : Prop :=
  Calls Tryz.prog f (args s).toArray W fun e w' => e = .returned v ∧ ∃ own', St w' base own' s n' M' ∧ Turns (Mine own) W w' ∧ Fresh own own' W
section
variable {M : Int → List Bk} {N : Nat}
theorem out_or (M : Int → List Bk) (b i : Int) : (i < 0 ∨ ((M b).length : Int) ≤ i) ∨ ∃ k : Nat, i = (k : Int) ∧ k < (M b).length := by
  by_cases h : i < 0 ∨ ((M b).length : Int) ≤ i
  · exact .inl h
  · exact .inr ⟨i.toNat, by omega, by omega⟩
theorem put_all (g : Good M N) {b : Int} (hb : InI b) (i : Int) {D : List Ent} (hk : Keys D) (hD : D.length ≤ 60) : ∃ (a : Bool) (M' : Int → List Bk), Good M' (N + 60) ∧
    (∀ W base own s n b0 A c, St W base own s n M → Rd W b0 A (flat D) → b0 ≤ W.heap.size → Calls Tryz.prog 23 #[s, .agg #[.int .i64 b, .int .i64 i], .slice A D.length c] W fun e w' => e = .returned (.bool a) ∧ ∃ own', St w' base own' s n M' ∧ Turns (Mine own) W w' ∧ Fresh own own' W) ∧
    (∀ W base own s b0 A c, Rt W base own s M → Rd W b0 A (flat D) → b0 ≤ W.heap.size → Calls Tryz.prog 55 #[s, .agg #[.int .i64 b, .int .i64 i], .slice A D.length c] W fun e w' => e = .returned (.bool a) ∧ ∃ own', Rt w' base own' s M' ∧ Turns (Mine own) W w' ∧ Fresh own own' W) := by
  rcases out_or M b i with h | ⟨k, rfl, h⟩
  · refine ⟨false, M, g.mono (by omega), fun W base own s n b0 A c hs hr hb0 => ?_, fun W base own s b0 A c hs hr hb0 => ?_⟩
    · obtain ⟨F, hr⟩ := hs.rs
      refine (put_no hr hb h A D.length c).mono ?_
      rintro e w' ⟨rfl, hbl⟩
      exact ⟨rfl, own, hs.new hbl, Turns.of_below hbl, Fresh.refl _ _⟩
    · refine (rput_no hs h A D.length c).mono ?_
      rintro e w' ⟨rfl, hbl⟩
      exact ⟨rfl, own, hs.new hbl, Turns.of_below hbl, Fresh.refl _ _⟩
  · refine ⟨true, _, g.put b h { (M b)[k]! with q := D } hk 60 (by show D.length ≤ _; omega), fun W base own s n b0 A c hs hr hb0 => put_yes hs hb h hr hb0 (by omega), fun W base own s b0 A c hs hr hb0 => rput_yes hs h hr hb0 (by omega)⟩
theorem putT_all (g : Good M N) {b : Int} (hb : InI b) (i ta tf : Int) : ∃ (a : Bool) (M' : Int → List Bk), Good M' N ∧
    (∀ W base own s n, St W base own s n M → Calls Tryz.prog 57 #[s, .agg #[.int .i64 b, .int .i64 i], .agg #[.int .u64 ta, .int .u64 tf]] W fun e w' => e = .returned (.bool a) ∧ St w' base own s n M' ∧ Turns (Mine own) W w') ∧
    (∀ W base own s, Rt W base own s M → Calls Tryz.prog 58 #[s, .agg #[.int .i64 b, .int .i64 i], .agg #[.int .u64 ta, .int .u64 tf]] W fun e w' => e = .returned (.bool a) ∧ Rt w' base own s M' ∧ Turns (Mine own) W w') := by
  rcases out_or M b i with h | ⟨k, rfl, h⟩
  · refine ⟨false, M, g, fun W base own s n hs => ?_, fun W base own s hs => ?_⟩
    · obtain ⟨F, hr⟩ := hs.rs
      refine (putT_no hr hb h ta tf).mono ?_
      rintro e w' ⟨rfl, hbl⟩
      exact ⟨rfl, hs.new hbl, Turns.of_below hbl⟩
    · refine (rputT_no hs h ta tf).mono ?_
      rintro e w' ⟨rfl, hbl⟩
      exact ⟨rfl, hs.new hbl, Turns.of_below hbl⟩
  · have hk : Keys (M b)[k]!.q := fun e he => g.keys b e (mem_q h he)
    exact ⟨true, _, (g.put b h { (M b)[k]! with a := ta, f := tf } hk 0 (by show (M b)[k]!.q.length ≤ _; omega)), fun W base own s n hs => putT_yes hs hb h ta tf, fun W base own s hs => rputT_yes hs h ta tf⟩
theorem queue_all (g : Good M N) (hN : N ≤ 100000) {b : Int} (hb : InI b) (i : Int) : ∃ D : List Ent, D.length ≤ 100000 ∧
    (∀ W base own s n, St W base own s n M → Calls Tryz.prog 100 #[s, .agg #[.int .i64 b, .int .i64 i]] W fun e w' => ∃ A', e = .returned (.slice A' D.length D.length) ∧ RowE w' W.heap.size (.slice A' D.length D.length) D ∧ Below W.heap.size W w') ∧
    (∀ W base own s, Rt W base own s M → Calls Tryz.prog 101 #[s, .agg #[.int .i64 b, .int .i64 i]] W fun e w' => ∃ A' c', e = .returned (.slice A' D.length c') ∧ D.length ≤ c' ∧ c' ≤ 9223372036854775807 ∧ Rd w' W.heap.size A' (flat D) ∧ Below W.heap.size W w') := by
  rcases out_or M b i with h | ⟨k, rfl, h⟩
  · refine ⟨[], by simp, fun W base own s n hs => ?_, fun W base own s hs => ?_⟩
    · obtain ⟨F, hr⟩ := hs.rs
      refine (queue_no hr hb h).mono ?_
      rintro e w' ⟨rfl, hbl⟩
      exact ⟨none, rfl, row_nil _ _ _, hbl⟩
    · refine (rqueue_no hs h).mono ?_
      rintro e w' ⟨rfl, hbl⟩
      exact ⟨none, 0, rfl, by simp, by omega, Rd.nil, hbl⟩
  · have hq := q_len h
    have := g.few b
    refine ⟨(M b)[k]!.q, by omega, fun W base own s n hs => ?_, fun W base own s hs => rqueue_yes hs h⟩
    obtain ⟨F, hr⟩ := hs.rs
    exact queue_yes hr hb h (by omega)
theorem timer_all (M : Int → List Bk) {b : Int} (hb : InI b) (i : Int) : ∃ ta tf : Int,
    (∀ W base own s n, St W base own s n M → Calls Tryz.prog 66 #[s, .agg #[.int .i64 b, .int .i64 i]] W fun e w' => e = .returned (.agg #[.int .u64 ta, .int .u64 tf]) ∧ Below W.heap.size W w') ∧
    (∀ W base own s, Rt W base own s M → Calls Tryz.prog 98 #[s, .agg #[.int .i64 b, .int .i64 i]] W fun e w' => e = .returned (.agg #[.int .u64 ta, .int .u64 tf]) ∧ Below W.heap.size W w') := by
  rcases out_or M b i with h | ⟨k, rfl, h⟩
  · refine ⟨0, 0, fun W base own s n hs => ?_, fun W base own s hs => rtimer_no hs h⟩
    obtain ⟨F, hr⟩ := hs.rs
    exact timer_no hr hb h
  · refine ⟨_, _, fun W base own s n hs => ?_, fun W base own s hs => rtimer_yes hs h⟩
    obtain ⟨F, hr⟩ := hs.rs
    exact timer_yes hr hb h
theorem has_all (M : Int → List Bk) {b : Int} (hb : InI b) : ∃ a : Bool,
    (∀ W base own s n, St W base own s n M → Calls Tryz.prog 71 #[s, .int .i64 b] W fun e w' => e = .returned (.bool a) ∧ W = w') ∧
    (∀ W base own s, Rt W base own s M → Calls Tryz.prog 96 #[s, .int .i64 b] W fun e w' => e = .returned (.bool a) ∧ W = w') := by
  refine ⟨decide (0 < (M b).length), fun W base own s n hs => ?_, fun W base own s hs => rhas_any hs b⟩
  obtain ⟨F, hr⟩ := hs.rs
  obtain ⟨A, c, V, e, _⟩ := hr.rd b
  exact has_any hr.sv hb e
theorem grow_all (g : Good M N) (hN : N ≤ 100000) {fr tg : Int} (hf : InI fr) (ht : InI tg) (now : Int) : ∃ (a : Bool) (M' : Int → List Bk), Good M' N ∧
    (∀ W base own s n, n < 1000000 → St W base own s n M → Calls Tryz.prog 22 #[s, .int .i64 fr, .int .i64 tg, .int .u64 now] W fun e w' => e = .returned (.bool a) ∧ ∃ own', St w' base own' s (n + 1) M' ∧ Turns (Mine own) W w' ∧ Fresh own own' W) ∧
    (∀ W base own s, Rt W base own s M → Calls Tryz.prog 52 #[s, .int .i64 fr, .int .i64 tg, .int .u64 now] W fun e w' => e = .returned (.bool a) ∧ ∃ own', Rt w' base own' s M' ∧ Turns (Mine own) W w' ∧ Fresh own own' W) := by
  by_cases hno : M fr = [] ∨ tg ≤ fr ∨ 8 < tg ∨ M tg ≠ []
  · refine ⟨false, M, g, fun W base own s n _ hs => ?_, fun W base own s hs => ?_⟩
    · obtain ⟨F, hr⟩ := hs.rs
      refine (grow_no hr hf ht now hno).mono ?_
      rintro e w' ⟨rfl, rfl⟩
      exact ⟨rfl, own, hs.mono (by omega), Turns.refl _ _, Fresh.refl _ _⟩
    · refine (rgrow_no hs now hno).mono ?_
      rintro e w' ⟨rfl, rfl⟩
      exact ⟨rfl, own, hs, Turns.refl _ _, Fresh.refl _ _⟩
  · have h0 : M fr ≠ [] := fun e => hno (.inl e)
    have h1 : fr < tg := by
      by_cases h : tg ≤ fr
      · exact absurd (.inr (.inl h)) hno
      · omega
    have h2 : tg ≤ 8 := by
      by_cases h : 8 < tg
      · exact absurd (.inr (.inr (.inl h))) hno
      · omega
    have h3 : M tg = [] := by
      by_cases h : M tg = []
      · exact h
      · exact absurd (.inr (.inr (.inr h))) hno
    have h4 : 2 ≤ fr := by
      by_cases h : fr < 2 ∨ 8 < fr
      · exact absurd (g.no fr h) h0
      · omega
    obtain ⟨h, hk, -⟩ := kits
    have K := hk tg.toNat (by omega) (by omega)
    have Kf := hk fr.toNat (by omega) (by omega)
    rw [Int.toNat_of_nonneg (by omega)] at K Kf
    have hlt : ∀ k, k < 4294967296 → h tg.toNat k < 2 ^ tg.toNat := K.lt (Nat.pow_pos (by omega))
    have hl := g.size fr h0
    have hfew := g.few fr
    have hle := g.len fr
    exact ⟨true, _, g.grow now h4 h1 h2 hlt, fun W base own s n hn hs => grow_yes hs hf ht now h0 h1 h2 h3 K hle (g.keys fr) (by omega) hn, fun W base own s hs => rgrow_yes hs now h0 h1 h2 h3 K Kf hl (g.keys fr) (by omega)⟩
end
/-- Both sets side by side. -/
structure Both (w : World) (base : Nat) (own ownR : Nat → Option Role) (s r : Value) (n : Nat) (M : Int → List Bk) : Prop where
  st : St w base own s n M
  rt : Rt w base ownR r M
  dj : ∀ g, Mine own g → ¬ Mine ownR g
theorem Both.keep {w : World} {base : Nat} {own ownR : Nat → Option Role} {s r : Value} {n : Nat} {M : Int → List Bk} (h : Both w base own ownR s r n M) {S : Nat → Prop} {w' : World} (t : Turns S w w') (h1 : ∀ g, Mine own g → ¬ S g) (h2 : ∀ g, Mine ownR g → ¬ S g) : Both w' base own ownR s r n M := ⟨h.st.keep t h1, h.rt.keep t h2, h.dj⟩
theorem Both.new {w : World} {base : Nat} {own ownR : Nat → Option Role} {s r : Value} {n : Nat} {M : Int → List Bk} (h : Both w base own ownR s r n M) {w' : World} (hb : Below w.heap.size w w') : Both w' base own ownR s r n M := h.keep (Turns.of_below (S := fun _ => False) hb) (fun _ _ e => e) (fun _ _ e => e)
end Go.Proofs.YtdfnocopakbhoaaGreatDoor.S10
