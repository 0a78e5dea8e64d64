/- A set as it is read: Queue, Timer. -/
import Derived.Test.YtcdoklgjicfkmaaT2
namespace Go.Proofs.Ytcdoklgjicfkmaa
open Go.RowKit

/-- What a set reads as. -/
structure Rs (w : World) (s : Value) (F : Int → Value) (M : Int → List Bk) : Prop where
  sv : Sv w s F
  rd : ∀ b, ∃ A c V, F b = .slice A (M b).length c ∧ (M b).length ≤ c ∧ c ≤ 9223372036854775807 ∧ Rd w w.heap.size A (bflat (M b) V) ∧
    ∀ i, i < (M b).length → ∃ A' c', V i = .slice A' (M b)[i]!.q.length c' ∧ (M b)[i]!.q.length ≤ c' ∧ c' ≤ 9223372036854775807 ∧ Rd w w.heap.size A' (flat (M b)[i]!.q)
theorem Rs.below {w w' : World} {s : Value} {F : Int → Value} {M : Int → List Bk} (h : Rs w s F M) (hb : Below w.heap.size w w') : Rs w' s F M :=
  ⟨h.sv.below hb, fun b => by
    obtain ⟨A, c, V, h1, h2, h3, h4, h5⟩ := h.rd b
    refine ⟨A, c, V, h1, h2, h3, (h4.below hb (Nat.le_refl _)).more hb.size, fun i hi => ?_⟩
    obtain ⟨A', c', h6, h7, h8, h9⟩ := h5 i hi
    exact ⟨A', c', h6, h7, h8, (h9.below hb (Nat.le_refl _)).more hb.size⟩⟩
/-- No set, and one that no call made: nothing is read there. -/
theorem rs_nil (w : World) : Rs w (.pointer none) (fun _ => nilS) (fun _ => []) :=
  ⟨.inl ⟨rfl, fun _ => rfl⟩, fun b => ⟨none, 0, fun _ => nilS, rfl, Nat.le_refl _, by omega, fun h => by simp [bflat] at h, fun i hi => by simp at hi⟩⟩
theorem rs_void {w : World} {sb : Nat} (h : w.cell? ⟨sb, 0, none⟩ = some (.map none)) : Rs w (.pointer (some ⟨sb, 0, none⟩)) (fun _ => nilS) (fun _ => []) :=
  ⟨.inr ⟨sb, rfl, .inl ⟨h, fun _ => rfl⟩⟩, fun b => ⟨none, 0, fun _ => nilS, rfl, Nat.le_refl _, by omega, fun h => by simp [bflat] at h, fun i hi => by simp at hi⟩⟩
/-- A bucket's three cells. -/
theorem Rs.bk {w : World} {s : Value} {F : Int → Value} {M : Int → List Bk} (h : Rs w s F M) {b : Int} {i : Nat} (hi : i < (M b).length) :
    ∃ g o c A' c', F b = .slice (some ⟨g, o, none⟩) (M b).length c ∧ w.cell? ⟨g, o + i * 3, none⟩ = some (.int .u64 (M b)[i]!.a) ∧ w.cell? ⟨g, o + i * 3 + 1, none⟩ = some (.int .u64 (M b)[i]!.f) ∧ w.cell? ⟨g, o + i * 3 + 2, none⟩ = some (.slice A' (M b)[i]!.q.length c') ∧
      g < w.heap.size ∧ (M b)[i]!.q.length ≤ c' ∧ c' ≤ 9223372036854775807 ∧ Rd w w.heap.size A' (flat (M b)[i]!.q) := by
  obtain ⟨A, c, V, h1, h2, h3, h4, h5⟩ := h.rd b
  obtain ⟨A', c', h6, h7, h8, h9⟩ := h5 i hi
  obtain ⟨g, o, rfl, hg, hl⟩ := h4 (by rw [bflat_len]; omega)
  obtain ⟨k0, k1, k2⟩ := bflat_get (M b) V hi
  refine ⟨g, o, c, A', c', h1, hl _ _ k0, ?_, ?_, hg, h7, h8, h9⟩
  · rw [Nat.add_assoc]; exact hl _ _ k1
  · rw [Nat.add_assoc, ← h6]; exact hl _ _ k2

section
variable {w : World} {s : Value} {F : Int → Value} {M : Int → List Bk} {b : Int}
theorem queue_no (h : Rs w s F M) (hb : InI b) {i : Int} (hi : i < 0 ∨ ((M b).length : Int) ≤ i) :
    Calls Try.prog 19 #[s, .agg #[.int .i64 b, .int .i64 i]] w fun e w' => e = .returned nilS ∧ Below w.heap.size w w' := by
  obtain ⟨A, c, V, h1, h2, h3, h4, h5⟩ := h.rd b
  have HT := Lib.hid (fun o => at_no (h.sv.below (below1 w o)) hb h1 hi)
  clear h h1 h2 h3 h4 h5
  go_enter Try.func19, Try.ntmps19
  go_wp2_with (go_at_call 42; refine (HT.out _).mono ?_; rintro e w' ⟨rfl, hb1⟩; (have HB1 := Lib.hid hb1); (clear hb1))
  go_ret
  exact ⟨rfl, (below1 w _).trans (HB1.out.mono (by simp))⟩
theorem queue_yes (h : Rs w s F M) (hb : InI b) {i : Nat} (hi : i < (M b).length) (hlen : (M b)[i]!.q.length ≤ 1000000) :
    Calls Try.prog 19 #[s, .agg #[.int .i64 b, .int .i64 (i : Int)]] w fun e w' => ∃ A', e = .returned (.slice A' (M b)[i]!.q.length (M b)[i]!.q.length) ∧ RowE w' w.heap.size (.slice A' (M b)[i]!.q.length (M b)[i]!.q.length) (M b)[i]!.q ∧ Below w.heap.size w w' := by
  obtain ⟨g, o, c, A', c', h1, k0, k1, k2, hg, h7, h8, h9⟩ := h.bk hi
  have HT := Lib.hid (fun o => at_yes (h.sv.below (below1 w o)) hb h1 hi)
  clear h h1 k0 k1 hi
  generalize (M b)[i]!.q = D at *
  obtain ⟨m, hm⟩ : ∃ m, m = D.length := ⟨_, rfl⟩
  rw [← hm] at k2
  have HM := Lib.hid hm
  have HR := Lib.hid h9
  have hk2 : ∀ W, Below w.heap.size w W → W.cell? ⟨g, o + i * 3 + 2, none⟩ = some (.slice A' m c') := fun W hb => (hb.cell (p := ⟨g, o + i * 3 + 2, none⟩) hg).trans k2
  have HK := Lib.hid hk2
  clear hk2 k2 h9 hm
  go_enter Try.func19, Try.ntmps19
  go_wp2_with fail
  refine (HT.out _).mono ?_
  rintro e w1 ⟨rfl, hb1⟩
  have HB1 := Lib.hid ((below1 w _).trans (hb1.mono (by simp)))
  have hc := HK.out w1 HB1.out
  clear hb1
  go_wp2_with (go_at_call 43; rw [HM.out]; refine (copied_any c' ((HR.out.below HB1.out (Nat.le_refl _)).more HB1.out.size) (Nat.le_refl _) hlen).mono ?_; rintro e w2 ⟨A2, rfl, hr2, hb2⟩; (have HR2 := Lib.hid hr2); (have HB2 := Lib.hid hb2); (clear hr2 hb2))
  go_ret
  exact ⟨_, rfl, HR2.out.base HB1.out.size, HB1.out.trans (HB2.out.mono HB1.out.size)⟩
/-- Two cells, set. -/
theorem pair_set {w : World} {X : Nat} {x y : Value} {T : TypeId} (h : w.heap[X]? = some (.cells #[x, y] T (0, 0))) (u v : Value) :
    ((w.setCell ⟨X, 0, none⟩ u).setCell ⟨X, 1, none⟩ v).heap[X]? = some (.cells #[u, v] T (0, 0)) := by
  have h1 := row_set h 0 u
  have h2 := row_set h1 1 v
  rw [h2]; rfl
theorem turns2 (w : World) (X : Nat) (u v : Value) : Turns (fun k => k = X) w ((w.setCell ⟨X, 0, none⟩ u).setCell ⟨X, 1, none⟩ v) :=
  ((Turns.refl (fun k => k = X) w).setCell ⟨X, 0, none⟩ u rfl).setCell ⟨X, 1, none⟩ v rfl
/-- The result's two cells, ahead of the calls in a walk. -/
theorem pair_facts {W w1 : World} {T : TypeId} {x y : Value} (hb : Below (W.alloc (.cells #[x, y] T)).heap.size (W.alloc (.cells #[x, y] T)) w1) : w1.heap[W.heap.size]? = some (.cells #[x, y] T (0, 0)) :=
  (hb.block _ (by simp)).trans (heap_alloc_new W _)
theorem timer_no (h : Rs w s F M) (hb : InI b) {i : Int} (hi : i < 0 ∨ ((M b).length : Int) ≤ i) :
    Calls Try.prog 20 #[s, .agg #[.int .i64 b, .int .i64 i]] w fun e w' => e = .returned (.agg #[.int .u64 0, .int .u64 0]) ∧ Below w.heap.size w w' := by
  obtain ⟨A, c, V, h1, h2, h3, h4, h5⟩ := h.rd b
  have HT := Lib.hid (fun W hW => at_no (h.sv.below (w' := W) hW) hb h1 hi)
  clear h h1 h2 h3 h4 h5
  go_enter Try.func20, Try.ntmps20
  go_wp2_with fail
  have hbb : Below w.heap.size w ((w.alloc (.cells #[.int .i64 b, .int .i64 i] 30)).alloc (.cells #[.int .u64 0, .int .u64 0] 33)) := (below1 w _).alloc (by simp) _
  refine (HT.out _ hbb).mono ?_
  rintro e w1 ⟨rfl, hb1⟩
  have hx := pair_facts hb1
  rw [show (w.alloc (.cells #[Value.int .i64 b, .int .i64 i] 30)).heap.size = w.heap.size + 1 by simp] at hx
  have HB := Lib.hid (hbb.trans (hb1.mono hbb.size))
  clear hb1 hbb
  obtain ⟨X, hX⟩ : ∃ X, X = w.heap.size + 1 := ⟨_, rfl⟩
  have HX := Lib.hid hX
  rw [← hX] at hx ⊢
  have x0 : w1.cell? ⟨X, 0, none⟩ = some (.int .u64 0) := cell_row hx 0
  have x1 : w1.cell? ⟨X, 1, none⟩ = some (.int .u64 0) := cell_row hx 1
  have f0 : w1.frozen? ⟨X, 0, none⟩ = false := froz_row hx 0
  have f1 : w1.frozen? ⟨X, 1, none⟩ = false := froz_row hx 1
  have hp := pair_set hx (.int .u64 0) (.int .u64 0)
  have S0 := Lib.hid (show _ = some (Value.int .u64 0) from cell_row hp 0); have S1 := Lib.hid (show _ = some (Value.int .u64 0) from cell_row hp 1)
  clear hx hX hp
  go_wp2_with fail
  refine bodyPost_ret (v := .agg #[.int .u64 0, .int .u64 0]) (by simp [results, Try.results20, go_sem, S0.out, S1.out]) rfl ⟨rfl, ?_⟩
  first | exact HB.out.trans ((turns2 w1 X _ _).below HB.out.size (fun k hk e => by have := HX.out; omega)) | exact (HB.out.trans ((turns2 w1 X _ _).below HB.out.size (fun k hk e => by have := HX.out; omega))).drew
theorem timer_yes (h : Rs w s F M) (hb : InI b) {i : Nat} (hi : i < (M b).length) :
    Calls Try.prog 20 #[s, .agg #[.int .i64 b, .int .i64 (i : Int)]] w fun e w' => e = .returned (.agg #[.int .u64 (M b)[i]!.a, .int .u64 (M b)[i]!.f]) ∧ Below w.heap.size w w' := by
  obtain ⟨g, o, c, A', c', h1, k0, k1, k2, hg, h7, h8, h9⟩ := h.bk hi
  have HT := Lib.hid (fun W hW => at_yes (h.sv.below (w' := W) hW) hb h1 hi)
  clear h h1 k2 h7 h8 h9 hi
  generalize (M b)[i]!.a = ta at *
  generalize (M b)[i]!.f = tf at *
  have HK0 := Lib.hid (fun W (hb : Below w.heap.size w W) => (hb.cell (p := ⟨g, o + i * 3, none⟩) hg).trans k0)
  have HK1 := Lib.hid (fun W (hb : Below w.heap.size w W) => (hb.cell (p := ⟨g, o + i * 3 + 1, none⟩) hg).trans k1)
  clear k0 k1
  go_enter Try.func20, Try.ntmps20
  go_wp2_with fail
  have hbb : Below w.heap.size w ((w.alloc (.cells #[.int .i64 b, .int .i64 (i : Int)] 30)).alloc (.cells #[.int .u64 0, .int .u64 0] 33)) := (below1 w _).alloc (by simp) _
  refine (HT.out _ hbb).mono ?_
  rintro e w1 ⟨rfl, hb1⟩
  have hx := pair_facts hb1
  rw [show (w.alloc (.cells #[Value.int .i64 b, .int .i64 (i : Int)] 30)).heap.size = w.heap.size + 1 by simp] at hx
  have hbw := hbb.trans (hb1.mono hbb.size)
  have k0 := HK0.out w1 hbw
  have k1 := HK1.out w1 hbw
  have HB := Lib.hid hbw
  clear hb1 hbb hbw
  obtain ⟨X, hX⟩ : ∃ X, X = w.heap.size + 1 := ⟨_, rfl⟩
  have HX := Lib.hid hX
  rw [← hX] at hx ⊢
  have x0 : w1.cell? ⟨X, 0, none⟩ = some (.int .u64 0) := cell_row hx 0
  have x1 : w1.cell? ⟨X, 1, none⟩ = some (.int .u64 0) := cell_row hx 1
  have f0 : w1.frozen? ⟨X, 0, none⟩ = false := froz_row hx 0
  have f1 : w1.frozen? ⟨X, 1, none⟩ = false := froz_row hx 1
  have hp := pair_set hx (.int .u64 ta) (.int .u64 tf)
  have S0 := Lib.hid (show _ = some (Value.int .u64 ta) from cell_row hp 0); have S1 := Lib.hid (show _ = some (Value.int .u64 tf) from cell_row hp 1)
  clear hx hX hp
  go_upto_region 4 with (fail)
  go_region
  go_wp2_with fail
  refine bodyPost_ret (v := .agg #[.int .u64 ta, .int .u64 tf]) (by simp [results, Try.results20, go_sem, S0.out, S1.out]) rfl ⟨rfl, ?_⟩
  first | exact HB.out.trans ((turns2 w1 X _ _).below HB.out.size (fun k hk e => by have := HX.out; omega)) | exact (HB.out.trans ((turns2 w1 X _ _).below HB.out.size (fun k hk e => by have := HX.out; omega))).drew
end
end Go.Proofs.Ytcdoklgjicfkmaa
