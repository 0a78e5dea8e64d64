/- The document's Queue and Timer. -/
import Derived.Test.YtcdoklgjicfkmaaU2
namespace Go.Proofs.Ytcdoklgjicfkmaa
open Go.RowKit

theorem there_no {M : Int → List Bk} {b i : Int} (h : i < 0 ∨ ((M b).length : Int) ≤ i) : thereB M b i = false := by
  unfold thereB
  rcases h with h | h
  · rw [show decide (0 ≤ i) = false by simpa using h]; rfl
  · rw [show decide (i < ((M b).length : Int)) = false by simpa using h]; simp
theorem there_yes {M : Int → List Bk} {b : Int} {i : Nat} (h : i < (M b).length) : thereB M b (i : Int) = true := by
  unfold thereB
  simp; exact h
section
variable {w : World} {base : Nat} {own : Nat → Option Role} {s : Value} {M : Int → List Bk} {b : Int}
/-- The cells of a bucket in the document's set. -/
theorem RtF.bk {rb : Nat} {Q T : Nat → Value} {V : Nat → Nat → Value} (h : RtF w base own s M rb Q T V) {k i : Nat} (hk : k < 9) (hi : i < (M (k : Int)).length) :
    ∃ gq oq cq gt ot ct, Q k = .slice (some ⟨gq, oq, none⟩) (M (k : Int)).length cq ∧ T k = .slice (some ⟨gt, ot, none⟩) (M (k : Int)).length ct ∧ own gq = some (.tab (k : Nat)) ∧ own gt = some (.tim (k : Nat)) ∧
      w.cell? ⟨gq, oq + i, none⟩ = some (V k i) ∧ w.frozen? ⟨gq, oq + i, none⟩ = false ∧
      w.cell? ⟨gt, ot + i * 2, none⟩ = some (.int .u64 (M (k : Int))[i]!.a) ∧ w.frozen? ⟨gt, ot + i * 2, none⟩ = false ∧ w.cell? ⟨gt, ot + i * 2 + 1, none⟩ = some (.int .u64 (M (k : Int))[i]!.f) ∧ w.frozen? ⟨gt, ot + i * 2 + 1, none⟩ = false := by
  have hr := h.hq k hk
  obtain ⟨A, c, e, hc, hc9⟩ := hr.shape
  rw [e] at hr
  have ht := h.ht k hk
  obtain ⟨A2, c2, e2, hc2, hc92⟩ := ht.shape
  rw [e2] at ht
  obtain ⟨g, o, rfl⟩ : ∃ g o, A = some ⟨g, o, none⟩ := by
    obtain ⟨A', c', e', _, _, _, h3, h4⟩ := hr
    cases e'
    cases A with
    | none => have := h3 rfl; omega
    | some ad => obtain ⟨g, o, rfl, _⟩ := h4 ad rfl; exact ⟨g, o, rfl⟩
  obtain ⟨g2, o2, rfl⟩ : ∃ g o, A2 = some ⟨g, o, none⟩ := by
    obtain ⟨A', c', e', _, _, _, h3, h4⟩ := ht
    cases e'
    cases A2 with
    | none => have := h3 rfl; omega
    | some ad => obtain ⟨g, o, rfl, _⟩ := h4 ad rfl; exact ⟨g, o, rfl⟩
  obtain ⟨u, hu, q1, q2⟩ := hr.ok (j := i) (by omega)
  rw [qflat_at _ hi] at hu
  cases hu
  obtain ⟨t0, t1⟩ := tflat_get (M (k : Int)) hi
  obtain ⟨u, hu, q3, q4⟩ := ht.ok (j := i * 2) (by omega)
  rw [t0] at hu
  cases hu
  obtain ⟨u, hu, q5, q6⟩ := ht.ok (j := i * 2 + 1) (by omega)
  rw [t1] at hu
  cases hu
  rw [← Nat.add_assoc] at q5 q6
  exact ⟨g, o, c, g2, o2, c2, e, e2, h.oq k g hk (by rw [e]; rfl), h.ot k g2 hk (by rw [e2]; rfl), q1, q2, q3, q4, q5, q6⟩
theorem rqueue_no (h : Rt w base own s M) {i : Int} (hi : i < 0 ∨ ((M b).length : Int) ≤ i) :
    Calls Try.prog 37 #[s, .agg #[.int .i64 b, .int .i64 i]] w fun e w' => e = .returned nilS ∧ Below w.heap.size w w' := by
  have HT := Lib.hid (fun o => there_any (h.new (below1 w o)) b i)
  rw [there_no hi] at HT
  clear h hi
  go_enter Try.func37, Try.ntmps37
  go_wp2_with (go_at_call 52; refine (HT.out _).mono ?_; rintro e w' ⟨rfl, hb1⟩; (have HB1 := Lib.hid hb1); (clear hb1))
  go_ret
  exact ⟨rfl, (below1 w _).trans (HB1.out.mono (by simp))⟩
theorem rqueue_yes (h : Rt w base own s M) {i : Nat} (hi : i < (M b).length) :
    Calls Try.prog 37 #[s, .agg #[.int .i64 b, .int .i64 (i : Int)]] w fun e w' => ∃ A' c', e = .returned (.slice A' (M b)[i]!.q.length c') ∧ (M b)[i]!.q.length ≤ c' ∧ c' ≤ 9223372036854775807 ∧ Rd w' w.heap.size A' (flat (M b)[i]!.q) ∧ Below w.heap.size w w' := by
  have HT := Lib.hid (fun o => there_any (h.new (below1 w o)) b i)
  rw [there_yes hi] at HT
  obtain ⟨rb, Q, T, V, hf⟩ := h
  obtain ⟨k, rfl, hk2, hk9⟩ := hf.nat (b := b) (fun e => by rw [e] at hi; simp at hi)
  obtain rfl := hf.hs
  obtain ⟨g, o, c, g2, o2, c2, e1, e2, og, og2, q1, q2, q3, q4, q5, q6⟩ := hf.bk hk9 hi
  have hv := hf.hv k i hi
  obtain ⟨A', c', ev, hc', hc9⟩ := hv.shape
  rw [ev] at hv q1
  have hc := (hf.hQ k hk9).1
  rw [e1] at hc
  have HR := Lib.hid hv.rd
  have hgl := (hf.fp g _ og).2
  have hrl := (hf.fp rb _ hf.os).2
  generalize (M (k : Int))[i]!.q = D at *
  generalize (M (k : Int)).length = m at *
  obtain ⟨n, hn⟩ : ∃ n, n = D.length := ⟨_, rfl⟩
  rw [← hn] at q1 hc' ⊢
  have HN := Lib.hid hn
  have HC' := Lib.hid hc'; have HC9 := Lib.hid hc9
  have HK := Lib.hid (fun W (hb : Below w.heap.size w W) => (⟨(hb.cell (p := ⟨rb, k, none⟩) hrl).trans hc, (hb.cell (p := ⟨g, o + i, none⟩) hgl).trans q1⟩ : _ ∧ _))
  clear hv q1 q2 q3 q4 q5 q6 hc hf e1 e2 og og2 ev hc' hc9 hn
  go_enter Try.func37, Try.ntmps37
  go_wp2_with fail
  have hnew := heap_alloc_new w (.cells #[.int .i64 (k : Int), .int .i64 (i : Int)] 79)
  refine (HT.out _).mono ?_
  rintro e w1 ⟨rfl, hb1⟩
  have hnew1 := (hb1.block _ (by simp)).trans hnew
  have c0 : w1.cell? ⟨w.heap.size, 0, none⟩ = some (.int .i64 (k : Int)) := cell_row hnew1 0
  have c1 : w1.cell? ⟨w.heap.size, 1, none⟩ = some (.int .i64 (i : Int)) := cell_row hnew1 1
  have HB := Lib.hid ((below1 w _).trans (hb1.mono (by simp)))
  obtain ⟨k0, k1⟩ := HK.out w1 HB.out
  clear hnew hb1 hnew1
  go_upto_region 3 with (fail)
  go_quiet (fail)
  go_wp2_with fail
  go_ret
  have hb2 := HB.out.trans ((below_drewN w1 nq).mono HB.out.size)
  exact ⟨A', c', rfl, HC'.out, HC9.out, HR.out.below hb2 (Nat.le_refl _), hb2⟩
theorem rtimer_no (h : Rt w base own s M) {i : Int} (hi : i < 0 ∨ ((M b).length : Int) ≤ i) :
    Calls Try.prog 38 #[s, .agg #[.int .i64 b, .int .i64 i]] w fun e w' => e = .returned (.agg #[.int .u64 0, .int .u64 0]) ∧ Below w.heap.size w w' := by
  have HT := Lib.hid (fun W hW => there_any (h.new (w' := W) hW) b i)
  rw [there_no hi] at HT
  clear h hi
  go_enter Try.func38, Try.ntmps38
  go_wp2_with fail
  have hbb : Below w.heap.size w ((w.alloc (.cells #[.int .i64 b, .int .i64 i] 79)).alloc (.cells #[.int .u64 0, .int .u64 0] 86)) := (below1 w _).alloc (by simp) _
  refine (HT.out _ hbb).mono ?_
  rintro e w1 ⟨rfl, hb1⟩
  have hx := pair_facts hb1
  rw [show (w.alloc (.cells #[Value.int .i64 b, .int .i64 i] 79)).heap.size = w.heap.size + 1 by simp] at hx
  have HB := Lib.hid (hbb.trans (hb1.mono hbb.size))
  clear hb1 hbb
  obtain ⟨X, hX⟩ : ∃ X, X = w.heap.size + 1 := ⟨_, rfl⟩
  have HX := Lib.hid hX
  rw [← hX] at hx ⊢
  have x0 : w1.cell? ⟨X, 0, none⟩ = some (.int .u64 0) := cell_row hx 0
  have x1 : w1.cell? ⟨X, 1, none⟩ = some (.int .u64 0) := cell_row hx 1
  have f0 : w1.frozen? ⟨X, 0, none⟩ = false := froz_row hx 0
  have f1 : w1.frozen? ⟨X, 1, none⟩ = false := froz_row hx 1
  have hp := pair_set hx (.int .u64 0) (.int .u64 0)
  have S0 := Lib.hid (show _ = some (Value.int .u64 0) from cell_row hp 0); have S1 := Lib.hid (show _ = some (Value.int .u64 0) from cell_row hp 1)
  clear hx hX hp
  go_wp2_with fail
  refine bodyPost_ret (v := .agg #[.int .u64 0, .int .u64 0]) (by simp [results, Try.results38, go_sem, S0.out, S1.out]) rfl ⟨rfl, ?_⟩
  exact HB.out.trans ((turns2 w1 X _ _).below HB.out.size (fun k hk e => by have := HX.out; omega))
theorem rtimer_yes (h : Rt w base own s M) {i : Nat} (hi : i < (M b).length) :
    Calls Try.prog 38 #[s, .agg #[.int .i64 b, .int .i64 (i : Int)]] w fun e w' => e = .returned (.agg #[.int .u64 (M b)[i]!.a, .int .u64 (M b)[i]!.f]) ∧ Below w.heap.size w w' := by
  have HT := Lib.hid (fun W hW => there_any (h.new (w' := W) hW) b i)
  rw [there_yes hi] at HT
  obtain ⟨rb, Q, T, V, hf⟩ := h
  obtain ⟨k, rfl, hk2, hk9⟩ := hf.nat (b := b) (fun e => by rw [e] at hi; simp at hi)
  obtain rfl := hf.hs
  obtain ⟨g2, o2, c2, g, o, c, e2, e1, og2, og, q1, q2, q3, q4, q5, q6⟩ := hf.bk hk9 hi
  have hc := (hf.hT k hk9).1
  rw [e1] at hc
  have hgl := (hf.fp g _ og).2
  have hrl := (hf.fp rb _ hf.os).2
  generalize (M (k : Int))[i]!.a = ta at *
  generalize (M (k : Int))[i]!.f = tf at *
  generalize (M (k : Int)).length = m at *
  have HK := Lib.hid (fun W (hb : Below w.heap.size w W) => (⟨(hb.cell (p := ⟨rb, 9 + k, none⟩) hrl).trans hc, (hb.cell (p := ⟨g, o + i * 2, none⟩) hgl).trans q3, (hb.cell (p := ⟨g, o + i * 2 + 1, none⟩) hgl).trans q5⟩ : _ ∧ _ ∧ _))
  clear q1 q2 q3 q4 q5 q6 hc hf e1 e2 og og2
  go_enter Try.func38, Try.ntmps38
  go_wp2_with fail
  have hbb : Below w.heap.size w ((w.alloc (.cells #[.int .i64 (k : Int), .int .i64 (i : Int)] 79)).alloc (.cells #[.int .u64 0, .int .u64 0] 86)) := (below1 w _).alloc (by simp) _
  have hnew : ((w.alloc (.cells #[.int .i64 (k : Int), .int .i64 (i : Int)] 79)).alloc (.cells #[.int .u64 0, .int .u64 0] 86)).heap[w.heap.size]? = some (.cells #[.int .i64 (k : Int), .int .i64 (i : Int)] 79 (0, 0)) :=
    (Below.heap_alloc _ _ _ (by simp)).trans (heap_alloc_new w _)
  refine (HT.out _ hbb).mono ?_
  rintro e w1 ⟨rfl, hb1⟩
  have hnew1 := (hb1.block _ (by simp; omega)).trans hnew
  have c0 : w1.cell? ⟨w.heap.size, 0, none⟩ = some (.int .i64 (k : Int)) := cell_row hnew1 0
  have c1 : w1.cell? ⟨w.heap.size, 1, none⟩ = some (.int .i64 (i : Int)) := cell_row hnew1 1
  have hx := pair_facts hb1
  rw [show (w.alloc (.cells #[Value.int .i64 (k : Int), .int .i64 (i : Int)] 79)).heap.size = w.heap.size + 1 by simp] at hx
  have HB := Lib.hid (hbb.trans (hb1.mono hbb.size))
  obtain ⟨k0, k1, k2⟩ := HK.out w1 HB.out
  clear hb1 hbb hnew hnew1
  obtain ⟨X, hX⟩ : ∃ X, X = w.heap.size + 1 := ⟨_, rfl⟩
  have HX := Lib.hid hX
  rw [← hX] at hx ⊢
  have x0 : w1.cell? ⟨X, 0, none⟩ = some (.int .u64 0) := cell_row hx 0
  have x1 : w1.cell? ⟨X, 1, none⟩ = some (.int .u64 0) := cell_row hx 1
  have f0 : w1.frozen? ⟨X, 0, none⟩ = false := froz_row hx 0
  have f1 : w1.frozen? ⟨X, 1, none⟩ = false := froz_row hx 1
  have hp := pair_set hx (.int .u64 ta) (.int .u64 tf)
  have S0 := Lib.hid (show _ = some (Value.int .u64 ta) from cell_row hp 0); have S1 := Lib.hid (show _ = some (Value.int .u64 tf) from cell_row hp 1)
  clear hx hX hp
  go_upto_region 3 with (fail)
  go_region
  go_wp2_with fail
  refine bodyPost_ret (v := .agg #[.int .u64 ta, .int .u64 tf]) (by simp [results, Try.results38, go_sem, S0.out, S1.out]) rfl ⟨rfl, ?_⟩
  exact (HB.out.trans ((turns2 w1 X _ _).below HB.out.size (fun k hk e => by have := HX.out; omega))).drew
end
end Go.Proofs.Ytcdoklgjicfkmaa
