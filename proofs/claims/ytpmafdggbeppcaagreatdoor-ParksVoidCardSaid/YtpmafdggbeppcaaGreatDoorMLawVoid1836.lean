/- Texts of this seat, one behind the other. -/
import Derived.Test.YtpmafdggbeppcaaGreatDoorMLawVoid1835
set_option linter.unusedVariables false
set_option linter.unusedSimpArgs false
namespace Go.Proofs.YtpmafdggbeppcaaGreatDoor.S10
set_option maxRecDepth 100000
set_option maxHeartbeats 16000000
open Go.Proofs.YtpmafdggbeppcaaGreatDoor
open Go.RowKit
theorem tflat_snoc (L : List Bk) (x : Bk) : tflat (L ++ [x]) = tflat L ++ [.int .u64 x.a, .int .u64 x.f] := by
  refine (tflat_ext (by simp [tflat_len]; omega) fun j hj => ?_).symm
  rw [List.length_append, List.length_singleton] at hj
  by_cases h : j < L.length * 2
  · rw [List.getElem?_append_left (by rw [tflat_len]; exact h), tflat_at L h]
    unfold tcell
    rw [get_app_ne (by omega)]
  · rw [List.getElem?_append_right (by rw [tflat_len]; omega), tflat_len]
    unfold tcell
    rw [show j / 2 = L.length by omega, get_app_last]
    have : j = L.length * 2 ∨ j = L.length * 2 + 1 := by omega
    rcases this with rfl | rfl
    · simp
    · rw [show L.length * 2 + 1 - L.length * 2 = 1 by omega]
      simp [Nat.add_mod]
theorem tflat_fresh (now : Int) (Ls : List (List Ent)) : tflat (fresh now Ls) = tflat (List.replicate Ls.length ⟨now, now, []⟩) := by
  refine (tflat_ext (by simp [tflat_len, fresh_len]) fun j hj => ?_).symm
  rw [fresh_len] at hj
  rw [tflat_at _ (by rw [List.length_replicate]; exact hj)]
  unfold tcell
  rw [fresh_at now Ls (by omega)]
  have : (List.replicate Ls.length (⟨now, now, []⟩ : Bk))[j / 2]! = ⟨now, now, []⟩ := by
    rw [List.getElem!_eq_getElem?_getD, List.getElem?_replicate, if_pos (by omega)]; rfl
  rw [this]
theorem info86 : ∃ i, Tryz.prog.info? 136 = some i ∧ i.zero = some (.agg #[.int .u64 0, .int .u64 0]) ∧ i.size = 2 ∧ i.bytes = 16 := info_of (by kernel_rfl)
theorem layT : Lay 140 136 2 16 (.agg #[.int .u64 0, .int .u64 0]) := ⟨Tryz.underlying140, info86, rfl, by decide, by decide⟩
theorem rd_two (w : World) (x y : Value) (T : TypeId) : Rd (w.alloc (.cells #[x, y] T)) (w.heap.size + 1) (some ⟨w.heap.size, 0, none⟩) [x, y] := fun _ => by
  refine ⟨w.heap.size, 0, rfl, by omega, fun j u e => ?_⟩
  have hnew := heap_alloc_new w (.cells #[x, y] T)
  rw [cell_row hnew, Nat.zero_add]
  simpa using e
theorem rbegin_any (x : Int) (w : World) : Calls Tryz.prog 122 #[.int .u64 x] w fun e w' => e = .returned (.agg #[.int .u64 x, .int .u64 x]) ∧ Below w.heap.size w w' := by
  go_enter Tryz.func122, Tryz.ntmps122
  go_wp2
  exact bodyPost_ret (v := .agg #[.int .u64 x, .int .u64 x]) (by simp [results, Tryz.results122, go_sem]) rfl ⟨rfl, below1 w _⟩
theorem tflat_one (L : List Bk) : ∀ u ∈ tflat L, u.oneCell' = true := fun u hu => by
  simp only [tflat, List.mem_map] at hu
  obtain ⟨j, _, rfl⟩ := hu
  unfold tcell
  split <;> rfl
theorem rbegins_any {w : World} {b : Int} {n : Nat} (hs : ∀ w, Calls Tryz.prog 120 #[.int .i64 b] w fun e w' => e = .returned (.int .i64 (n : Nat)) ∧ w = w') (hn : n ≤ 256) (now : Int) :
    Calls Tryz.prog 84 #[.int .i64 b, .int .u64 now] w fun e w' => ∃ s, e = .returned s ∧ Row w' w.heap.size 2 s n (tflat (List.replicate n ⟨now, now, []⟩)) ∧ Below w.heap.size w w' := by
  have HS := Lib.hid hs
  clear hs
  go_enter Tryz.func84, Tryz.ntmps84
  go_wp2_with fail
  go_loopg [5, 6] n (fun q s5 s6 wx => ∃ k : Nat, k ≤ n ∧ q = n - k ∧ s6 = .int .i64 (k : Int) ∧ Row wx w.heap.size 2 s5 k (tflat (List.replicate k ⟨now, now, []⟩)) ∧ Below w.heap.size w wx)
  case atStart => exact ⟨0, by omega, rfl, rfl, row_nil _ _ _, Below.refl _ _⟩
  case round =>
    obtain ⟨k, hk, rfl, rfl, hrow, hb⟩ := hrel
    have HROW := Lib.hid hrow; have HB := Lib.hid hb
    clear hrow hb
    by_cases hkn : k < n
    · go_wp2_with (go_at_call 120; refine (HS.out _).mono ?_; rintro e w' ⟨rfl, rfl⟩)
      refine (rbegin_any now _).mono ?_
      rintro e w1 ⟨rfl, hb1⟩
      have HB1 := Lib.hid hb1
      clear hb1
      go_wp2_with (at_builtin; refine wpList_append_row layT rfl _ _ rfl rfl ((HROW.out.new HB1.out).new (below1 _ _)) (tflat_one _) (by have := HB.out.size; have := HB1.out.size; simp; omega) 1 rfl (rd_two w1 _ _ 136) rfl (fun u hu => by simp at hu; rw [hu]; rfl) (by omega) ?_; intro v' w2 hr2 ht2 ho2; (have HR2 := Lib.hid hr2); (have HT2 := Lib.hid ht2); (clear hr2 ht2 ho2))
      go_roundg (n - (k + 1))
      case measure => omega
      case rel =>
        refine ⟨k + 1, by omega, rfl, by go_num, ?_, ?_⟩
        · have := HR2.out
          rw [← tflat_snoc (List.replicate k ⟨now, now, []⟩) ⟨now, now, []⟩, ← List.replicate_succ'] at this
          exact this
        · have t3 := ((Turns.refl _ w1).alloc _).trans HT2.out (fun k _ e => e)
          exact (HB.out.trans (HB1.out.mono HB.out.size)).trans (t3.below (by have := HB.out.size; have := HB1.out.size; omega) (fun x hx e => by have := (HROW.out.lt x e).1; omega))
    · obtain rfl : k = n := by omega
      go_wp2_with (go_at_call 120; refine (HS.out _).mono ?_; rintro e w' ⟨rfl, rfl⟩)
      go_ret
      exact ⟨_, rfl, HROW.out, HB.out⟩
def NewT (s : Value) (ss : List Value) (b : Int) (x : Nat) (r : Role) : Prop := (s.ownBlock = some x ∧ r = .tab b) ∨ ∃ i v, ss[i]? = some v ∧ v.ownBlock = some x ∧ r = .q b i
theorem NewT.fun {w : World} {base : Nat} {s : Value} {ss : List Value} {Ls : List (List Ent)} (h : Tab w base s ss Ls) {b : Int} {x : Nat} {r r' : Role} (e : NewT s ss b x r) (e' : NewT s ss b x r') : r = r' := by
  rcases e with ⟨h1, rfl⟩ | ⟨i, v, hv, h1, rfl⟩
  · rcases e' with ⟨_, rfl⟩ | ⟨j, u, hu, h2, rfl⟩
    · rfl
    · exact absurd h1 (h.off j u x hu h2)
  · rcases e' with ⟨h2, rfl⟩ | ⟨j, u, hu, h2, rfl⟩
    · exact absurd h2 (h.off i v x hv h1)
    · rw [h.apart i j v u x hv hu h1 h2]
theorem NewT.lt {w : World} {base : Nat} {s : Value} {ss : List Value} {Ls : List (List Ent)} (h : Tab w base s ss Ls) {b : Int} {x : Nat} {r : Role} (e : NewT s ss b x r) : base ≤ x ∧ x < w.heap.size := by
  rcases e with ⟨h1, rfl⟩ | ⟨i, v, hv, h1, rfl⟩
  · exact h.row.lt x h1
  · exact h.lt hv h1
theorem tab_qflat {w : World} {base : Nat} {s : Value} {ss : List Value} {Ls : List (List Ent)} (h : Tab w base s ss Ls) : Row w base 1 s Ls.length (qflat Ls.length fun i => (ss[i]?).getD nilS) := by
  have hl := h.len
  have : ss = qflat Ls.length fun i => (ss[i]?).getD nilS := by
    refine List.ext_getElem? fun j => ?_
    by_cases hj : j < Ls.length
    · rw [qflat_at _ hj, List.getElem?_eq_getElem (by omega)]; rfl
    · rw [List.getElem?_eq_none (by omega), List.getElem?_eq_none (by rw [qflat_len]; omega)]
  have hr := h.row
  rw [this] at hr
  exact hr
end Go.Proofs.YtpmafdggbeppcaaGreatDoor.S10
namespace Go.Proofs.YtpmafdggbeppcaaGreatDoor.S10
set_option maxRecDepth 100000
set_option maxHeartbeats 16000000
open Go.Proofs.YtpmafdggbeppcaaGreatDoor
open Go.RowKit
theorem rehash_nil {w : World} {b : Int} {n : Nat} {h : Nat → Nat} (K : Kit b n h) : Calls Tryz.prog 83 #[nilS, .int .i64 b] w fun e w' => ∃ s ss, e = .returned s ∧ Tab w' w.heap.size s ss (List.replicate n []) ∧ Below w.heap.size w w' := by
  have hq : Qs w w.heap.size none ([] : List (List Ent)) := Qs.nil
  have hk : Keys (([] : List (List Ent)).flatten) := fun e he => by simp at he
  by_cases h0 : 0 < n
  · have := rrehash_any (w := w) (c := 0) (Ls := []) h K.rsize K.rhash K.few hq (Nat.le_refl _) (by simp) (by omega) hk (by simp) (by simp)
    rw [List.flatten_nil, reh_nil] at this
    exact this
  · obtain rfl : n = 0 := by omega
    have := rrehash_any (w := w) (c := 0) (Ls := []) h K.rsize K.rhash K.few hq (Nat.le_refl _) (by simp) (by omega) hk (by simp) (by simp)
    rw [List.flatten_nil, reh_nil] at this
    exact this
theorem rnew_any (now : Int) (w : World) : Calls Tryz.prog 75 #[.int .u64 now] w fun e w' => ∃ s own, e = .returned s ∧ Rt w' w.heap.size own s (M0 now) ∧ Below w.heap.size w w' := by
  obtain ⟨h, hk, -⟩ := kits
  have K : Kit 2 4 (h 2) := hk 2 (by omega) (by omega)
  have HR := Lib.hid (fun W => rehash_nil (w := W) K)
  have HBG := Lib.hid (fun W => rbegins_any (w := W) K.rsize K.few now)
  clear hk K
  have hz : ∀ W, (zeroValue 145).run Tryz.prog W = .ok (.agg #[nilS, nilS, nilS, nilS, nilS, nilS, nilS, nilS, nilS, nilS, nilS, nilS, nilS, nilS, nilS, nilS, nilS, nilS]) W := fun W => by
    simp [zeroValue, go_sem, Tryz.underlying145]; rfl
  go_enter Tryz.func75, Tryz.ntmps75
  go_upto_region 2 with (fail)
  have hnew := heap_alloc_new w (.cells #[nilS, nilS, nilS, nilS, nilS, nilS, nilS, nilS, nilS, nilS, nilS, nilS, nilS, nilS, nilS, nilS, nilS, nilS] 145)
  have hb0 := below1 w (.cells #[nilS, nilS, nilS, nilS, nilS, nilS, nilS, nilS, nilS, nilS, nilS, nilS, nilS, nilS, nilS, nilS, nilS, nilS] 145)
  have hs0 : (w.alloc (.cells #[nilS, nilS, nilS, nilS, nilS, nilS, nilS, nilS, nilS, nilS, nilS, nilS, nilS, nilS, nilS, nilS, nilS, nilS] 145)).heap.size = w.heap.size + 1 := by simp
  generalize w.alloc (.cells #[nilS, nilS, nilS, nilS, nilS, nilS, nilS, nilS, nilS, nilS, nilS, nilS, nilS, nilS, nilS, nilS, nilS, nilS] 145) = w0 at *
  obtain ⟨X, hX⟩ : ∃ X, X = w.heap.size := ⟨_, rfl⟩
  rw [← hX] at hnew ⊢
  have hall : ∀ j, j < 18 → w0.drew.cell? ⟨X, j, none⟩ = some nilS ∧ w0.drew.frozen? ⟨X, j, none⟩ = false := fun j hj => by
    refine ⟨?_, froz_row hnew j⟩
    have := cell_row hnew j
    rw [show w0.drew.cell? ⟨X, j, none⟩ = w0.cell? ⟨X, j, none⟩ from rfl, this]
    have : j = 0 ∨ j = 1 ∨ j = 2 ∨ j = 3 ∨ j = 4 ∨ j = 5 ∨ j = 6 ∨ j = 7 ∨ j = 8 ∨ j = 9 ∨ j = 10 ∨ j = 11 ∨ j = 12 ∨ j = 13 ∨ j = 14 ∨ j = 15 ∨ j = 16 ∨ j = 17 := by omega
    rcases this with rfl | rfl | rfl | rfl | rfl | rfl | rfl | rfl | rfl | rfl | rfl | rfl | rfl | rfl | rfl | rfl | rfl | rfl <;> rfl
  have hXl : X < w0.drew.heap.size := by show X < w0.heap.size; omega
  have HALL := Lib.hid hall; have HB0 := Lib.hid hb0; have HX := Lib.hid hX; have HS0 := Lib.hid hs0
  clear hnew hb0 hz hall hX hs0
  refine wp_region_held_drew (S := fun _ => True) (by kernel_rfl) ?_ (fun hHeld => ?_)
  · trivial
  refine tA 0 ⟨some 6, .move (.tmp 3), 79, "ref.go:35", #[], none⟩ ?va0 ?ra0
  (try simp only [Act.put, tC, tD, tE])
  refine tA 2 ⟨some 8, .nilCheck (.tmp 6), 0, "ref.go:35", #[⟨0, .data⟩], none⟩ ?va2 ?ra2
  (try simp only [Act.put, tC, tD, tE])
  refine tA 3 ⟨some 9, .fieldAddr 145 (.tmp 8) 0, 0, "ref.go:35", #[⟨2, .data⟩], none⟩ ?va3 ?ra3
  (try simp only [Act.put, tC, tD, tE])
  refine wpAnyH_ready (rs := [1]) (by kernel_rfl) (by simp) ?_
  refine AllReadyH.cons (o := ⟨some 7, .call ⟨.value (.func 83), #[.const (.slice none 0 0), .const (.int .i64 2)], #[141, 3]⟩, 141, "ref.go:35", #[], none⟩) rfl (fun Kq hKq => ?_) AllReadyH.nil
  go_simp
  (refine (HR.out _).mono ?_; rintro e w1 ⟨s1, ss1, rfl, ht1, hb1⟩; obtain ⟨A1, c1, hse, hc1, hc19⟩ := ht1.shape; rw [List.length_replicate] at hse hc1; subst hse; have HT1 := Lib.hid ht1; have HB1 := Lib.hid hb1; clear ht1)
  refine hKq.out _ _ ?_ (fun hHeld => ?_)
  · trivial
  clear hKq Kq
  (try simp only [Act.put, tC, tD, tE])
  refine tA 4 ⟨some 10, .indexAddr 142 (.tmp 9) (.const (.int .i64 2)), 0, "ref.go:35", #[⟨3, .data⟩, ⟨0, .phase⟩, ⟨1, .phase⟩], none⟩ ?va4 ?ra4
  (try simp only [Act.put, tC, tD, tE])
  refine wpAnyH_ready (rs := [5]) (by kernel_rfl) (by simp) ?_
  refine AllReadyH.cons (o := ⟨none, .store 141 (.tmp 10) (.tmp 7), 0, "ref.go:35", #[⟨4, .data⟩, ⟨1, .data⟩, ⟨1, .chain⟩, ⟨0, .phase⟩, ⟨1, .phase⟩], none⟩) rfl (fun Kq hKq => ?_) AllReadyH.nil
  have k2 := (hb1.cell (p := ⟨X, 2, none⟩) hXl).trans (HALL.out 2 (by omega)).1; have f2 := (hb1.frozen (p := ⟨X, 2, none⟩) hXl).trans (HALL.out 2 (by omega)).2; clear hb1; go_simp
  refine hKq.out _ _ ?_ (fun hHeld => ?_)
  · trivial
  clear hKq Kq
  (try simp only [Act.put, tC, tD, tE])
  refine wpAnyH_done (by kernel_rfl) ?_ _
  have hX2 : X < (w1.setCell ⟨X, 2, none⟩ (.slice A1 4 c1)).drew.heap.size := by
    have := HB1.out.size
    show X < (w1.setCell _ _).heap.size
    simp [World.setCell]; omega
  have H11 : Hid (∀ W, Below (w1.setCell ⟨X, 2, none⟩ (.slice A1 4 c1)).drew.heap.size (w1.setCell ⟨X, 2, none⟩ (.slice A1 4 c1)).drew W → W.cell? ⟨X, 11, none⟩ = some nilS ∧ W.frozen? ⟨X, 11, none⟩ = false) := Lib.hid fun W hb =>
    ⟨(hb.cell (p := ⟨X, 11, none⟩) hX2).trans ((World.cell?_setCell_other _ _ _ _ (by simp)).trans ((HB1.out.cell (p := ⟨X, 11, none⟩) hXl).trans (HALL.out 11 (by omega)).1)), (hb.frozen (p := ⟨X, 11, none⟩) hX2).trans ((World.frozen?_setCell _ _ _ _).trans ((HB1.out.frozen (p := ⟨X, 11, none⟩) hXl).trans (HALL.out 11 (by omega)).2))⟩
  go_upto_region 3 with (fail)
  refine wp_region_held_drew (S := fun _ => True) (by kernel_rfl) ?_ (fun hHeld => ?_)
  · trivial
  refine tA 0 ⟨some 11, .move (.tmp 3), 79, "ref.go:36", #[], none⟩ ?vb0 ?rb0
  (try simp only [Act.put, tC, tD, tE])
  refine tA 1 ⟨some 12, .move (.tmp 0), 29, "ref.go:36", #[], none⟩ ?vb1 ?rb1
  (try simp only [Act.put, tC, tD, tE])
  refine tA 3 ⟨some 14, .nilCheck (.tmp 11), 0, "ref.go:36", #[⟨0, .data⟩], none⟩ ?vb3 ?rb3
  (try simp only [Act.put, tC, tD, tE])
  refine tA 4 ⟨some 15, .fieldAddr 145 (.tmp 14) 1, 0, "ref.go:36", #[⟨3, .data⟩], none⟩ ?vb4 ?rb4
  (try simp only [Act.put, tC, tD, tE])
  refine wpAnyH_ready (rs := [2]) (by kernel_rfl) (by simp) ?_
  refine AllReadyH.cons (o := ⟨some 13, .call ⟨.value (.func 84), #[.const (.int .i64 2), .tmp 12], #[3, 29]⟩, 140, "ref.go:36", #[⟨1, .data⟩], none⟩) rfl (fun Kq hKq => ?_) AllReadyH.nil
  go_simp
  (refine (HBG.out _).mono ?_; rintro e w3 ⟨s2, rfl, hr2, hb3⟩; obtain ⟨A2, c2, rfl, hc2, hc29⟩ := hr2.shape; have HR2 := Lib.hid hr2; have HB3 := Lib.hid hb3; clear hr2)
  refine hKq.out _ _ ?_ (fun hHeld => ?_)
  · trivial
  clear hKq Kq
  (try simp only [Act.put, tC, tD, tE])
  refine tA 5 ⟨some 16, .indexAddr 143 (.tmp 15) (.const (.int .i64 2)), 0, "ref.go:36", #[⟨4, .data⟩, ⟨0, .phase⟩, ⟨1, .phase⟩, ⟨2, .phase⟩], none⟩ ?vb5 ?rb5
  (try simp only [Act.put, tC, tD, tE])
  refine wpAnyH_ready (rs := [6]) (by kernel_rfl) (by simp) ?_
  refine AllReadyH.cons (o := ⟨none, .store 140 (.tmp 16) (.tmp 13), 0, "ref.go:36", #[⟨5, .data⟩, ⟨2, .data⟩, ⟨2, .chain⟩, ⟨0, .phase⟩, ⟨1, .phase⟩, ⟨2, .phase⟩], none⟩) rfl (fun Kq hKq => ?_) AllReadyH.nil
  obtain ⟨k3, f3⟩ := H11.out w3 hb3; clear hb3; go_simp
  refine hKq.out _ _ ?_ (fun hHeld => ?_)
  · trivial
  clear hKq Kq
  (try simp only [Act.put, tC, tD, tE])
  refine wpAnyH_done (by kernel_rfl) ?_ _
  have hs1 := HB1.out.size; have hs2 := HB3.out.size
  have hz1 : (w1.setCell ⟨X, 2, none⟩ (.slice A1 4 c1)).drew.heap.size = w1.heap.size := by show (w1.setCell _ _).heap.size = _; simp [World.setCell]
  have hw0 : w0.drew.heap.size = w.heap.size + 1 := HS0.out
  rw [hz1] at hs2
  rw [hw0] at hs1
  have hXw := HX.out
  have t12 : Turns (fun x => x = X) w1 (w1.setCell ⟨X, 2, none⟩ (.slice A1 4 c1)).drew := ((Turns.refl (fun x => x = X) w1).setCell ⟨X, 2, none⟩ _ rfl).drew
  have t13 : Turns (fun x => x = X) w1 w3 := t12.trans (Turns.of_below (S := fun x => x = X) HB3.out) (fun _ _ e => e)
  have t34 : Turns (fun x => x = X) w3 (w3.setCell ⟨X, 11, none⟩ (.slice A2 4 c2)) := (Turns.refl (fun x => x = X) w3).setCell ⟨X, 11, none⟩ _ rfl
  have t14 := t13.trans t34 (fun _ _ e => e)
  have b04 : Below w.heap.size w (w3.setCell ⟨X, 11, none⟩ (.slice A2 4 c2)) := (HB0.out.drew.trans (HB1.out.mono (by omega))).trans (t14.below (by omega) (fun k hk e => by omega))
  have htab := HT1.out
  have hl2 := HR2.out.lt
  rw [hz1] at hl2
  have hz4 := t34.size
  have hnl : ∀ x r, NewT (.slice A1 4 c1) ss1 2 x r → w.heap.size + 1 ≤ x ∧ x < w1.heap.size := fun x r e => by
    have := NewT.lt htab e; omega
  obtain ⟨own, o1, -, o3⟩ := own_new (fun _ => none) (fun x r => (x = X ∧ r = .set) ∨ NewT (.slice A1 4 c1) ss1 2 x r ∨ ((Value.slice A2 4 c2).ownBlock = some x ∧ r = .tim 2)) (fun _ => False) 0 (fun x r r' e e' => by
    rcases e with ⟨h1, rfl⟩ | h1 | ⟨h1, rfl⟩
    · rcases e' with ⟨h2, rfl⟩ | h2 | ⟨h2, rfl⟩
      · rfl
      · have := hnl x _ h2; omega
      · have := hl2 x h2; omega
    · rcases e' with ⟨h2, rfl⟩ | h2 | ⟨h2, rfl⟩
      · have := hnl x _ h1; omega
      · exact NewT.fun htab h1 h2
      · have := hl2 x h2; have := hnl x _ h1; omega
    · rcases e' with ⟨h2, rfl⟩ | h2 | ⟨h2, rfl⟩
      · have := hl2 x h1; omega
      · have := hl2 x h1; have := hnl x _ h2; omega
      · rfl) (fun _ _ _ => Nat.zero_le _) (fun _ _ e => by cases e)
  have H : RtF (w3.setCell ⟨X, 11, none⟩ (.slice A2 4 c2)) w.heap.size own (.pointer (some ⟨X, 0, none⟩)) (M0 now) X (upd (fun _ => nilS) 2 (.slice A1 4 c1)) (upd (fun _ => nilS) 2 (.slice A2 4 c2)) (upd (fun _ _ => nilS) 2 (fun i => (ss1[i]?).getD nilS)) := by
    have hM2 : M0 now ((2 : Nat) : Int) = fresh now (List.replicate 4 []) := upd_same _ _ _
    have hMo : ∀ b : Int, b ≠ 2 → M0 now b = [] := fun b hb => upd_ne _ _ hb
    have hXl3 : X < w3.heap.size := by omega
    have hsame : ∀ j, j ≠ 2 → j ≠ 11 → j < 18 → (w3.setCell ⟨X, 11, none⟩ (.slice A2 4 c2)).cell? ⟨X, j, none⟩ = some nilS := fun j h1 h2 hj =>
      (World.cell?_setCell_other _ _ _ _ (by simp <;> omega)).trans ((HB3.out.cell (p := ⟨X, j, none⟩) hX2).trans ((World.cell?_setCell_other _ _ _ _ (by simp <;> omega)).trans ((HB1.out.cell (p := ⟨X, j, none⟩) hXl).trans (HALL.out j hj).1)))
    have hfz : ∀ j, j < 18 → (w3.setCell ⟨X, 11, none⟩ (.slice A2 4 c2)).frozen? ⟨X, j, none⟩ = false := fun j hj =>
      (World.frozen?_setCell _ _ _ _).trans ((HB3.out.frozen (p := ⟨X, j, none⟩) hX2).trans ((World.frozen?_setCell _ _ _ _).trans ((HB1.out.frozen (p := ⟨X, j, none⟩) hXl).trans (HALL.out j hj).2)))
    have h2c : (w3.setCell ⟨X, 11, none⟩ (.slice A2 4 c2)).cell? ⟨X, 2, none⟩ = some (.slice A1 4 c1) :=
      (World.cell?_setCell_other _ _ _ _ (by simp)).trans ((HB3.out.cell (p := ⟨X, 2, none⟩) hX2).trans (World.cell?_setCell_same _ _ _ k2))
    have h11c : (w3.setCell ⟨X, 11, none⟩ (.slice A2 4 c2)).cell? ⟨X, 11, none⟩ = some (.slice A2 4 c2) := World.cell?_setCell_same _ _ _ k3
    refine ⟨fun x r e => ?_, rfl, o1 _ _ (.inl ⟨rfl, rfl⟩), fun j hj => ⟨?_, hfz j (by omega)⟩, fun j hj => ⟨?_, hfz _ (by omega)⟩, fun b hb => hMo b (by omega), fun j hj => ?_, fun j hj => ?_, fun j i hi => ?_, fun j x hj e => ?_, fun j x hj e => ?_, fun j i x hi e => ?_⟩
    · have hz5 : w3.heap.size ≤ (w3.setCell ⟨X, 11, none⟩ (.slice A2 4 c2)).heap.size := hz4
      rcases o3 x r e with h' | ⟨rfl, rfl⟩ | h' | ⟨h', rfl⟩
      · cases h'
      · omega
      · have := hnl x r h'; omega
      · have := hl2 x h'; omega
    · by_cases e : j = 2
      · subst e; rw [upd_same]; exact h2c
      · rw [upd_ne _ _ e]; exact hsame j e (by omega) (by omega)
    · by_cases e : j = 2
      · subst e; rw [upd_same]; exact h11c
      · rw [upd_ne _ _ e]; exact hsame _ (by omega) (by omega) (by omega)
    · by_cases e : j = 2
      · subst e
        rw [upd_same, upd_same, hM2, fresh_len, List.length_replicate]
        have := tab_qflat htab
        rw [List.length_replicate] at this
        exact (this.keep t14 (fun x e e2 => by have := htab.row.lt x e; omega)).base (Nat.zero_le _)
      · rw [upd_ne _ _ e, hMo _ (by omega)]
        exact row_nil _ _ _
    · by_cases e : j = 2
      · subst e
        rw [upd_same, hM2, fresh_len, tflat_fresh, List.length_replicate]
        exact (HR2.out.keep t34 (fun x e e2 => by have := hl2 x e; omega)).base (Nat.zero_le _)
      · rw [upd_ne _ _ e, hMo _ (by omega)]
        exact row_nil _ _ _
    · by_cases e : j = 2
      · subst e
        rw [hM2, fresh_len] at hi
        rw [upd_same, hM2, fresh_at _ _ hi]
        obtain ⟨v, hv, hr, _⟩ := htab.qs i hi
        rw [hv]
        exact (hr.keep t14 (fun x e e2 => by have := htab.lt hv e; omega)).base (Nat.zero_le _)
      · rw [hMo _ (by omega)] at hi
        simp at hi
    · by_cases ej : j = 2
      · subst ej
        rw [upd_same] at e
        exact o1 _ _ (.inr (.inl (.inl ⟨e, rfl⟩)))
      · rw [upd_ne _ _ ej] at e
        simp [Value.ownBlock] at e
    · by_cases ej : j = 2
      · subst ej
        rw [upd_same] at e
        exact o1 _ _ (.inr (.inr ⟨e, rfl⟩))
      · rw [upd_ne _ _ ej] at e
        simp [Value.ownBlock] at e
    · by_cases ej : j = 2
      · subst ej
        rw [hM2, fresh_len] at hi
        rw [upd_same] at e
        obtain ⟨v, hv, hr, _⟩ := htab.qs i hi
        rw [hv] at e
        exact o1 _ _ (.inr (.inl (.inr ⟨i, v, hv, e, rfl⟩)))
      · rw [hMo _ (by omega)] at hi
        simp at hi
  have HH := Lib.hid H; have HB4 := Lib.hid b04
  clear H b04 t14 t34 t13 t12 hnl hl2 hz4 htab o1 o3 hXw hw0 hs1 hs2 hz1
  go_wp2_with fail
  go_ret
  exact ⟨_, rfl, ⟨own, X, _, _, _, HH.out⟩, HB4.out⟩
end Go.Proofs.YtpmafdggbeppcaaGreatDoor.S10
