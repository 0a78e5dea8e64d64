/- Texts of this seat, one behind the other. -/
import Derived.Test.YthafnphpcdbnlaaGreatDoorMLawNew33
set_option linter.unusedVariables false
set_option linter.unusedSimpArgs false
set_option linter.unusedVariables false
set_option linter.unusedSimpArgs false
namespace Go.Proofs.YthafnphpcdbnlaaGreatDoor.S10
open Go.Proofs.YthafnphpcdbnlaaGreatDoor
open Go.RowKit

/-- Timers, one behind the other: at, fired. -/
def tcell (L : List Bk) (j : Nat) : Value := if j % 2 = 0 then .int .u64 L[j / 2]!.a else .int .u64 L[j / 2]!.f
def tflat (L : List Bk) : List Value := (List.range (L.length * 2)).map (tcell L)
theorem tflat_len (L : List Bk) : (tflat L).length = L.length * 2 := by simp [tflat]
theorem tflat_at (L : List Bk) {j : Nat} (h : j < L.length * 2) : (tflat L)[j]? = some (tcell L j) := by simp [tflat, h]
theorem tflat_get (L : List Bk) {i : Nat} (h : i < L.length) : (tflat L)[i * 2]? = some (.int .u64 L[i]!.a) ∧ (tflat L)[i * 2 + 1]? = some (.int .u64 L[i]!.f) := by
  refine ⟨?_, ?_⟩
  · rw [tflat_at L (by omega)]
    simp [tcell]
  · rw [tflat_at L (by omega)]
    simp [tcell, Nat.add_mod, show (i * 2 + 1) / 2 = i by omega]
theorem tflat_ext {L' : List Bk} {cs : List Value} (hl : cs.length = L'.length * 2) (h : ∀ j, j < L'.length * 2 → cs[j]? = some (tcell L' j)) : cs = tflat L' := by
  refine List.ext_getElem? fun j => ?_
  by_cases hj : j < L'.length * 2
  · rw [h j hj, tflat_at L' hj]
  · rw [List.getElem?_eq_none (by omega), List.getElem?_eq_none (by rw [tflat_len]; omega)]
theorem tflat_set (L : List Bk) {i : Nat} (h : i < L.length) (a f : Int) : ((tflat L).set (i * 2) (.int .u64 a)).set (i * 2 + 1) (.int .u64 f) = tflat (L.set i { L[i]! with a := a, f := f }) := by
  refine tflat_ext (by simp [tflat_len]) fun j hj => ?_
  rw [List.length_set] at hj
  unfold tcell
  rw [get_set h]
  by_cases e : j = i * 2 + 1
  · subst e
    rw [List.getElem?_set_self (by rw [List.length_set, tflat_len]; omega)]
    simp [Nat.add_mod, show (i * 2 + 1) / 2 = i by omega]
  · rw [List.getElem?_set_ne (fun e' => e e'.symm)]
    by_cases e0 : j = i * 2
    · subst e0
      rw [List.getElem?_set_self (by rw [tflat_len]; omega)]
      simp
    · rw [List.getElem?_set_ne (fun e' => e0 e'.symm), tflat_at L hj]
      unfold tcell
      rw [if_neg (show ¬ j / 2 = i by omega)]
/-- Where a queue is put, the timers stay. -/
theorem tflat_q (L : List Bk) {i : Nat} (h : i < L.length) (q : List Ent) : tflat (L.set i { L[i]! with q := q }) = tflat L := by
  refine (tflat_ext (by simp [tflat_len]) fun j hj => ?_).symm
  rw [List.length_set] at hj
  rw [tflat_at L hj]
  unfold tcell
  rw [get_set h]
  by_cases e : j / 2 = i
  · subst e; simp
  · rw [if_neg e]
theorem tflat_hollow (L : List Bk) : tflat (hollow L) = tflat L := by
  refine (tflat_ext (by simp [tflat_len, hollow_len]) fun j hj => ?_).symm
  rw [hollow_len] at hj
  rw [tflat_at L hj]
  unfold tcell
  rw [hollow_at L (by omega)]
def qflat (n : Nat) (V : Nat → Value) : List Value := (List.range n).map V
theorem qflat_len (n : Nat) (V : Nat → Value) : (qflat n V).length = n := by simp [qflat]
theorem qflat_at {n i : Nat} (V : Nat → Value) (h : i < n) : (qflat n V)[i]? = some (V i) := by simp [qflat, h]
theorem qflat_set (n : Nat) (V : Nat → Value) {i : Nat} (h : i < n) (v : Value) : (qflat n V).set i v = qflat n (upd V i v) := by
  refine List.ext_getElem? fun j => ?_
  by_cases hj : j < n
  · by_cases e : j = i
    · subst e
      rw [List.getElem?_set_self (by rw [qflat_len]; exact hj), qflat_at _ hj, upd_same]
    · rw [List.getElem?_set_ne (fun e' => e e'.symm), qflat_at _ hj, qflat_at _ hj, upd_ne _ _ e]
  · rw [List.getElem?_eq_none (by rw [List.length_set, qflat_len]; omega), List.getElem?_eq_none (by rw [qflat_len]; omega)]

structure RtF (w : World) (base : Nat) (own : Nat → Option Role) (s : Value) (M : Int → List Bk) (rb : Nat) (Q T : Nat → Value) (V : Nat → Nat → Value) : Prop where
  fp : ∀ g r, own g = some r → base ≤ g ∧ g < w.heap.size
  hs : s = .pointer (some ⟨rb, 0, none⟩)
  os : own rb = some .set
  hQ : ∀ k, k < 9 → w.cell? ⟨rb, k, none⟩ = some (Q k) ∧ w.frozen? ⟨rb, k, none⟩ = false
  hT : ∀ k, k < 9 → w.cell? ⟨rb, 9 + k, none⟩ = some (T k) ∧ w.frozen? ⟨rb, 9 + k, none⟩ = false
  no : ∀ b, (b < 2 ∨ 8 < b) → M b = []
  hq : ∀ k : Nat, k < 9 → Row w 0 1 (Q k) (M (k : Int)).length (qflat (M (k : Int)).length (V k))
  ht : ∀ k : Nat, k < 9 → Row w 0 2 (T k) (M (k : Int)).length (tflat (M (k : Int)))
  hv : ∀ (k : Nat) i, i < (M (k : Int)).length → RowE w 0 (V k i) (M (k : Int))[i]!.q
  oq : ∀ k g, k < 9 → (Q k).ownBlock = some g → own g = some (.tab (k : Nat))
  ot : ∀ k g, k < 9 → (T k).ownBlock = some g → own g = some (.tim (k : Nat))
  ov : ∀ (k : Nat) i g, i < (M (k : Int)).length → (V k i).ownBlock = some g → own g = some (.q (k : Nat) i)
def Rt (w : World) (base : Nat) (own : Nat → Option Role) (s : Value) (M : Int → List Bk) : Prop := ∃ rb Q T V, RtF w base own s M rb Q T V
section
variable {w : World} {base : Nat} {own : Nat → Option Role} {s : Value} {M : Int → List Bk} {rb : Nat} {Q T : Nat → Value} {V : Nat → Nat → Value}
theorem RtF.keep (h : RtF w base own s M rb Q T V) {S : Nat → Prop} {w' : World} (t : Turns S w w') (hn : ∀ g, Mine own g → ¬ S g) : RtF w' base own s M rb Q T V := by
  have hlt := (h.fp rb _ h.os).2
  have hno := hn rb ⟨_, h.os⟩
  exact ⟨fun g r e => ⟨(h.fp g r e).1, Nat.lt_of_lt_of_le (h.fp g r e).2 t.size⟩, h.hs, h.os, fun k hk => ⟨(t.cell hlt hno).trans (h.hQ k hk).1, (t.frozen hlt hno).trans (h.hQ k hk).2⟩, fun k hk => ⟨(t.cell hlt hno).trans (h.hT k hk).1, (t.frozen hlt hno).trans (h.hT k hk).2⟩, h.no,
    fun k hk => (h.hq k hk).keep t (fun g e => hn g ⟨_, h.oq k g hk e⟩), fun k hk => (h.ht k hk).keep t (fun g e => hn g ⟨_, h.ot k g hk e⟩), fun k i hi => (h.hv k i hi).keep t (fun g e => hn g ⟨_, h.ov k i g hi e⟩), h.oq, h.ot, h.ov⟩
theorem Rt.keep (h : Rt w base own s M) {S : Nat → Prop} {w' : World} (t : Turns S w w') (hn : ∀ g, Mine own g → ¬ S g) : Rt w' base own s M := by
  obtain ⟨rb, Q, T, V, h⟩ := h
  exact ⟨rb, Q, T, V, h.keep t hn⟩
theorem RtF.new (h : RtF w base own s M rb Q T V) {w' : World} (hb : Below w.heap.size w w') : RtF w' base own s M rb Q T V := h.keep (Turns.of_below (S := fun _ => False) hb) (fun _ _ e => e)
theorem Rt.new (h : Rt w base own s M) {w' : World} (hb : Below w.heap.size w w') : Rt w' base own s M := h.keep (Turns.of_below (S := fun _ => False) hb) (fun _ _ e => e)
theorem Rt.fp (h : Rt w base own s M) {g : Nat} (e : Mine own g) : base ≤ g ∧ g < w.heap.size := by
  obtain ⟨rb, Q, T, V, h⟩ := h
  obtain ⟨r, e⟩ := e
  exact h.fp g r e
theorem RtF.ne (h : RtF w base own s M rb Q T V) {g g' : Nat} {r r' : Role} (e : own g = some r) (e' : own g' = some r') (hr : r ≠ r') : g ≠ g' := fun h' => by
  subst h'
  rw [e] at e'
  exact hr (by simpa using e')
theorem RtF.nat (h : RtF w base own s M rb Q T V) {b : Int} (hb : M b ≠ []) : ∃ k : Nat, b = (k : Int) ∧ 2 ≤ k ∧ k < 9 := by
  by_cases h0 : b < 2 ∨ 8 < b
  · exact absurd (h.no b h0) hb
  · exact ⟨b.toNat, by omega, by omega, by omega⟩
theorem rhas_any (h : Rt w base own s M) (b : Int) : Calls Tryz.prog 63 #[s, .int .i64 b] w fun e w' => e = .returned (.bool (decide (0 < (M b).length))) ∧ w = w' := by
  obtain ⟨rb, Q, T, V, h⟩ := h
  obtain rfl := h.hs
  by_cases h0 : 2 ≤ b
  · by_cases h1 : b ≤ 8
    · obtain ⟨k, rfl⟩ := Int.eq_ofNat_of_zero_le (show 0 ≤ b by omega)
      obtain ⟨A, c, e, h2, h3⟩ := (h.ht k (by omega)).shape
      have hc := (h.hT k (by omega)).1
      rw [e] at hc
      generalize (M (k : Int)).length = m at *
      have hk9 : k < 9 := by omega
      have d0 : decide (2 ≤ (k : Int)) = true := by simpa using h0
      have d1 : decide ((k : Int) ≤ 8) = true := by simpa using h1
      clear h e h0 h1
      go_enter Tryz.func63, Tryz.ntmps63
      go_wp2_with fail
      go_ret
      exact ⟨by simp, rfl⟩
    · rw [h.no b (by omega)]
      have d0 : decide (2 ≤ b) = true := by simpa using h0
      have d1 : decide (b ≤ 8) = false := by simpa using h1
      clear h h0 h1
      go_enter Tryz.func63, Tryz.ntmps63
      go_wp2_with fail
      go_ret
      exact ⟨rfl, rfl⟩
  · rw [h.no b (by omega)]
    have d0 : decide (2 ≤ b) = false := by simpa using h0
    clear h h0
    go_enter Tryz.func63, Tryz.ntmps63
    go_wp2_with fail
    go_ret
    exact ⟨rfl, rfl⟩
end
end Go.Proofs.YthafnphpcdbnlaaGreatDoor.S10
set_option linter.unusedVariables false
set_option linter.unusedSimpArgs false
namespace Go.Proofs.YthafnphpcdbnlaaGreatDoor.S10
open Go.Proofs.YthafnphpcdbnlaaGreatDoor
open Go.RowKit

theorem below_drewN (w : World) (n : Nat) : Below w.heap.size w (w.drewN n) := ⟨rfl, rfl, rfl, Nat.le_refl _, fun _ _ => rfl⟩
/-- Is there such a bucket? -/
def thereB (M : Int → List Bk) (b i : Int) : Bool := decide (0 ≤ i) && decide (i < ((M b).length : Int))
section
variable {w : World} {base : Nat} {own : Nat → Option Role} {s : Value} {M : Int → List Bk}
theorem there_any (h : Rt w base own s M) (b i : Int) : Calls Tryz.prog 88 #[s, .agg #[.int .i64 b, .int .i64 i]] w fun e w' => e = .returned (.bool (thereB M b i)) ∧ Below w.heap.size w w' := by
  have HH := Lib.hid (fun W hb => rhas_any (h.new (w' := W) hb) b)
  unfold thereB
  by_cases h0 : M b = []
  · rw [h0]
    have e0 : (decide (0 ≤ i) && decide (i < (([] : List Bk).length : Int))) = false := by
      by_cases hi : 0 ≤ i
      · have : ¬ i < 0 := by omega
        simp [this]
      · simp [hi]
    rw [e0]
    have hd : decide (0 < (M b).length) = false := by rw [h0]; decide
    rw [hd] at HH
    clear h h0 hd e0
    go_enter Tryz.func88, Tryz.ntmps88
    go_upto_region 1 with (fail)
    have hb1 := below1 w (.cells #[.int .i64 b, .int .i64 i] 176)
    have hnew := heap_alloc_new w (.cells #[.int .i64 b, .int .i64 i] 176)
    have c0 := cell_row hnew 0; have c1 := cell_row hnew 1
    generalize hw1 : w.alloc (.cells #[.int .i64 b, .int .i64 i] 176) = w1 at *
    have HB := Lib.hid hb1
    clear hnew hb1 hw1
    have c0' : w1.cell? ⟨w.heap.size, 0, none⟩ = some (.int .i64 b) := c0
    have c1' : w1.cell? ⟨w.heap.size, 1, none⟩ = some (.int .i64 i) := c1
    clear c0 c1
    go_quiet ((go_at_call 63; refine Calls.quiet_of_same ((HH.out _ (HB.out.trans ((below_drewN w1 _).mono HB.out.size))).mono fun _ _ h => ⟨h.1, h.2.symm⟩)))
    go_wp2_with fail
    go_ret
    exact ⟨rfl, HB.out.trans ((below_drewN w1 nq).mono HB.out.size)⟩
  · have hd : decide (0 < (M b).length) = true := by simpa using List.length_pos_iff.2 h0
    rw [hd] at HH
    obtain ⟨rb, Q, T, V, hf⟩ := h
    obtain ⟨k, rfl, hk2, hk9⟩ := hf.nat h0
    obtain rfl := hf.hs
    obtain ⟨A, c, e, h2, h3⟩ := (hf.ht k hk9).shape
    have hc := (hf.hT k hk9).1
    rw [e] at hc
    have hrl := (hf.fp rb _ hf.os).2
    generalize (M (k : Int)).length = m at *
    clear hf e h0 hd
    by_cases h0 : 0 ≤ i
    · have d0 : decide (0 ≤ i) = true := by simpa using h0
      rw [d0]
      simp only [Bool.true_and]
      go_enter Tryz.func88, Tryz.ntmps88
      go_upto_region 1 with (fail)
      have hb1 := below1 w (.cells #[.int .i64 (k : Int), .int .i64 i] 176)
      have hnew := heap_alloc_new w (.cells #[.int .i64 (k : Int), .int .i64 i] 176)
      have c0 := cell_row hnew 0; have c1 := cell_row hnew 1
      have hc1 := (hb1.cell (p := ⟨rb, 9 + k, none⟩) hrl).trans hc
      generalize hw1 : w.alloc (.cells #[.int .i64 (k : Int), .int .i64 i] 176) = w1 at *
      have HB := Lib.hid hb1
      clear hnew hb1 hw1
      have c0' : w1.cell? ⟨w.heap.size, 0, none⟩ = some (.int .i64 (k : Int)) := c0
      have c1' : w1.cell? ⟨w.heap.size, 1, none⟩ = some (.int .i64 i) := c1
      clear c0 c1
      go_quiet ((go_at_call 63; refine Calls.quiet_of_same ((HH.out _ (HB.out.trans ((below_drewN w1 _).mono HB.out.size))).mono fun _ _ h => ⟨h.1, h.2.symm⟩)))
      go_wp2_with fail
      go_ret
      exact ⟨rfl, HB.out.trans ((below_drewN w1 nq).mono HB.out.size)⟩
    · have d0 : decide (0 ≤ i) = false := by simpa using h0
      rw [d0]
      simp only [Bool.false_and]
      go_enter Tryz.func88, Tryz.ntmps88
      go_upto_region 1 with (fail)
      have hb1 := below1 w (.cells #[.int .i64 (k : Int), .int .i64 i] 176)
      have hnew := heap_alloc_new w (.cells #[.int .i64 (k : Int), .int .i64 i] 176)
      have c0 := cell_row hnew 0; have c1 := cell_row hnew 1
      generalize hw1 : w.alloc (.cells #[.int .i64 (k : Int), .int .i64 i] 176) = w1 at *
      have HB := Lib.hid hb1
      clear hnew hb1 hw1
      have c0' : w1.cell? ⟨w.heap.size, 0, none⟩ = some (.int .i64 (k : Int)) := c0
      have c1' : w1.cell? ⟨w.heap.size, 1, none⟩ = some (.int .i64 i) := c1
      clear c0 c1
      go_quiet ((go_at_call 63; refine Calls.quiet_of_same ((HH.out _ (HB.out.trans ((below_drewN w1 _).mono HB.out.size))).mono fun _ _ h => ⟨h.1, h.2.symm⟩)))
      go_wp2_with fail
      go_ret
      exact ⟨rfl, HB.out.trans ((below_drewN w1 nq).mono HB.out.size)⟩
end
end Go.Proofs.YthafnphpcdbnlaaGreatDoor.S10
set_option linter.unusedVariables false
set_option linter.unusedSimpArgs false
namespace Go.Proofs.YthafnphpcdbnlaaGreatDoor.S10
open Go.Proofs.YthafnphpcdbnlaaGreatDoor
open Go.RowKit

theorem there_no {M : Int → List Bk} {b i : Int} (h : i < 0 ∨ ((M b).length : Int) ≤ i) : thereB M b i = false := by
  unfold thereB
  rcases h with h | h
  · rw [show decide (0 ≤ i) = false by simpa using h]; rfl
  · rw [show decide (i < ((M b).length : Int)) = false by simpa using h]; simp
theorem there_yes {M : Int → List Bk} {b : Int} {i : Nat} (h : i < (M b).length) : thereB M b (i : Int) = true := by
  unfold thereB
  simp; exact h
section
variable {w : World} {base : Nat} {own : Nat → Option Role} {s : Value} {M : Int → List Bk} {b : Int}
/-- The cells of a bucket in the document's set. -/
theorem RtF.bk {rb : Nat} {Q T : Nat → Value} {V : Nat → Nat → Value} (h : RtF w base own s M rb Q T V) {k i : Nat} (hk : k < 9) (hi : i < (M (k : Int)).length) :
    ∃ gq oq cq gt ot ct, Q k = .slice (some ⟨gq, oq, none⟩) (M (k : Int)).length cq ∧ T k = .slice (some ⟨gt, ot, none⟩) (M (k : Int)).length ct ∧ own gq = some (.tab (k : Nat)) ∧ own gt = some (.tim (k : Nat)) ∧
      w.cell? ⟨gq, oq + i, none⟩ = some (V k i) ∧ w.frozen? ⟨gq, oq + i, none⟩ = false ∧
      w.cell? ⟨gt, ot + i * 2, none⟩ = some (.int .u64 (M (k : Int))[i]!.a) ∧ w.frozen? ⟨gt, ot + i * 2, none⟩ = false ∧ w.cell? ⟨gt, ot + i * 2 + 1, none⟩ = some (.int .u64 (M (k : Int))[i]!.f) ∧ w.frozen? ⟨gt, ot + i * 2 + 1, none⟩ = false := by
  have hr := h.hq k hk
  obtain ⟨A, c, e, hc, hc9⟩ := hr.shape
  rw [e] at hr
  have ht := h.ht k hk
  obtain ⟨A2, c2, e2, hc2, hc92⟩ := ht.shape
  rw [e2] at ht
  obtain ⟨g, o, rfl⟩ : ∃ g o, A = some ⟨g, o, none⟩ := by
    obtain ⟨A', c', e', _, _, _, h3, h4⟩ := hr
    cases e'
    cases A with
    | none => have := h3 rfl; omega
    | some ad => obtain ⟨g, o, rfl, _⟩ := h4 ad rfl; exact ⟨g, o, rfl⟩
  obtain ⟨g2, o2, rfl⟩ : ∃ g o, A2 = some ⟨g, o, none⟩ := by
    obtain ⟨A', c', e', _, _, _, h3, h4⟩ := ht
    cases e'
    cases A2 with
    | none => have := h3 rfl; omega
    | some ad => obtain ⟨g, o, rfl, _⟩ := h4 ad rfl; exact ⟨g, o, rfl⟩
  obtain ⟨u, hu, q1, q2⟩ := hr.ok (j := i) (by omega)
  rw [qflat_at _ hi] at hu
  cases hu
  obtain ⟨t0, t1⟩ := tflat_get (M (k : Int)) hi
  obtain ⟨u, hu, q3, q4⟩ := ht.ok (j := i * 2) (by omega)
  rw [t0] at hu
  cases hu
  obtain ⟨u, hu, q5, q6⟩ := ht.ok (j := i * 2 + 1) (by omega)
  rw [t1] at hu
  cases hu
  rw [← Nat.add_assoc] at q5 q6
  exact ⟨g, o, c, g2, o2, c2, e, e2, h.oq k g hk (by rw [e]; rfl), h.ot k g2 hk (by rw [e2]; rfl), q1, q2, q3, q4, q5, q6⟩
theorem rqueue_no (h : Rt w base own s M) {i : Int} (hi : i < 0 ∨ ((M b).length : Int) ≤ i) :
    Calls Tryz.prog 70 #[s, .agg #[.int .i64 b, .int .i64 i]] w fun e w' => e = .returned nilS ∧ Below w.heap.size w w' := by
  have HT := Lib.hid (fun o => there_any (h.new (below1 w o)) b i)
  rw [there_no hi] at HT
  clear h hi
  go_enter Tryz.func70, Tryz.ntmps70
  go_wp2_with (go_at_call 88; refine (HT.out _).mono ?_; rintro e w' ⟨rfl, hb1⟩; (have HB1 := Lib.hid hb1); (clear hb1))
  go_ret
  exact ⟨rfl, (below1 w _).trans (HB1.out.mono (by simp))⟩
theorem rqueue_yes (h : Rt w base own s M) {i : Nat} (hi : i < (M b).length) :
    Calls Tryz.prog 70 #[s, .agg #[.int .i64 b, .int .i64 (i : Int)]] w fun e w' => ∃ A' c', e = .returned (.slice A' (M b)[i]!.q.length c') ∧ (M b)[i]!.q.length ≤ c' ∧ c' ≤ 9223372036854775807 ∧ Rd w' w.heap.size A' (flat (M b)[i]!.q) ∧ Below w.heap.size w w' := by
  have HT := Lib.hid (fun o => there_any (h.new (below1 w o)) b i)
  rw [there_yes hi] at HT
  obtain ⟨rb, Q, T, V, hf⟩ := h
  obtain ⟨k, rfl, hk2, hk9⟩ := hf.nat (b := b) (fun e => by rw [e] at hi; simp at hi)
  obtain rfl := hf.hs
  obtain ⟨g, o, c, g2, o2, c2, e1, e2, og, og2, q1, q2, q3, q4, q5, q6⟩ := hf.bk hk9 hi
  have hv := hf.hv k i hi
  obtain ⟨A', c', ev, hc', hc9⟩ := hv.shape
  rw [ev] at hv q1
  have hc := (hf.hQ k hk9).1
  rw [e1] at hc
  have HR := Lib.hid hv.rd
  have hgl := (hf.fp g _ og).2
  have hrl := (hf.fp rb _ hf.os).2
  generalize (M (k : Int))[i]!.q = D at *
  generalize (M (k : Int)).length = m at *
  obtain ⟨n, hn⟩ : ∃ n, n = D.length := ⟨_, rfl⟩
  rw [← hn] at q1 hc' ⊢
  have HN := Lib.hid hn
  have HC' := Lib.hid hc'; have HC9 := Lib.hid hc9
  have HK := Lib.hid (fun W (hb : Below w.heap.size w W) => (⟨(hb.cell (p := ⟨rb, k, none⟩) hrl).trans hc, (hb.cell (p := ⟨g, o + i, none⟩) hgl).trans q1⟩ : _ ∧ _))
  clear hv q1 q2 q3 q4 q5 q6 hc hf e1 e2 og og2 ev hc' hc9 hn
  go_enter Tryz.func70, Tryz.ntmps70
  go_wp2_with fail
  have hnew := heap_alloc_new w (.cells #[.int .i64 (k : Int), .int .i64 (i : Int)] 176)
  refine (HT.out _).mono ?_
  rintro e w1 ⟨rfl, hb1⟩
  have hnew1 := (hb1.block _ (by simp)).trans hnew
  have c0 : w1.cell? ⟨w.heap.size, 0, none⟩ = some (.int .i64 (k : Int)) := cell_row hnew1 0
  have c1 : w1.cell? ⟨w.heap.size, 1, none⟩ = some (.int .i64 (i : Int)) := cell_row hnew1 1
  have HB := Lib.hid ((below1 w _).trans (hb1.mono (by simp)))
  obtain ⟨k0, k1⟩ := HK.out w1 HB.out
  clear hnew hb1 hnew1
  go_upto_region 3 with (fail)
  go_quiet (fail)
  go_wp2_with fail
  go_ret
  have hb2 := HB.out.trans ((below_drewN w1 nq).mono HB.out.size)
  exact ⟨A', c', rfl, HC'.out, HC9.out, HR.out.below hb2 (Nat.le_refl _), hb2⟩
theorem rtimer_no (h : Rt w base own s M) {i : Int} (hi : i < 0 ∨ ((M b).length : Int) ≤ i) :
    Calls Tryz.prog 66 #[s, .agg #[.int .i64 b, .int .i64 i]] w fun e w' => e = .returned (.agg #[.int .u64 0, .int .u64 0]) ∧ Below w.heap.size w w' := by
  have HT := Lib.hid (fun W hW => there_any (h.new (w' := W) hW) b i)
  rw [there_no hi] at HT
  clear h hi
  go_enter Tryz.func66, Tryz.ntmps66
  go_wp2_with fail
  have hbb : Below w.heap.size w ((w.alloc (.cells #[.int .i64 b, .int .i64 i] 176)).alloc (.cells #[.int .u64 0, .int .u64 0] 171)) := (below1 w _).alloc (by simp) _
  refine (HT.out _ hbb).mono ?_
  rintro e w1 ⟨rfl, hb1⟩
  have hx := pair_facts hb1
  rw [show (w.alloc (.cells #[Value.int .i64 b, .int .i64 i] 176)).heap.size = w.heap.size + 1 by simp] at hx
  have HB := Lib.hid (hbb.trans (hb1.mono hbb.size))
  clear hb1 hbb
  obtain ⟨X, hX⟩ : ∃ X, X = w.heap.size + 1 := ⟨_, rfl⟩
  have HX := Lib.hid hX
  rw [← hX] at hx ⊢
  have x0 : w1.cell? ⟨X, 0, none⟩ = some (.int .u64 0) := cell_row hx 0
  have x1 : w1.cell? ⟨X, 1, none⟩ = some (.int .u64 0) := cell_row hx 1
  have f0 : w1.frozen? ⟨X, 0, none⟩ = false := froz_row hx 0
  have f1 : w1.frozen? ⟨X, 1, none⟩ = false := froz_row hx 1
  have hp := pair_set hx (.int .u64 0) (.int .u64 0)
  have S0 := Lib.hid (show _ = some (Value.int .u64 0) from cell_row hp 0); have S1 := Lib.hid (show _ = some (Value.int .u64 0) from cell_row hp 1)
  clear hx hX hp
  go_wp2_with fail
  refine bodyPost_ret (v := .agg #[.int .u64 0, .int .u64 0]) (by simp [results, Tryz.results66, go_sem, S0.out, S1.out]) rfl ⟨rfl, ?_⟩
  exact HB.out.trans ((turns2 w1 X _ _).below HB.out.size (fun k hk e => by have := HX.out; omega))
theorem rtimer_yes (h : Rt w base own s M) {i : Nat} (hi : i < (M b).length) :
    Calls Tryz.prog 66 #[s, .agg #[.int .i64 b, .int .i64 (i : Int)]] w fun e w' => e = .returned (.agg #[.int .u64 (M b)[i]!.a, .int .u64 (M b)[i]!.f]) ∧ Below w.heap.size w w' := by
  have HT := Lib.hid (fun W hW => there_any (h.new (w' := W) hW) b i)
  rw [there_yes hi] at HT
  obtain ⟨rb, Q, T, V, hf⟩ := h
  obtain ⟨k, rfl, hk2, hk9⟩ := hf.nat (b := b) (fun e => by rw [e] at hi; simp at hi)
  obtain rfl := hf.hs
  obtain ⟨g2, o2, c2, g, o, c, e2, e1, og2, og, q1, q2, q3, q4, q5, q6⟩ := hf.bk hk9 hi
  have hc := (hf.hT k hk9).1
  rw [e1] at hc
  have hgl := (hf.fp g _ og).2
  have hrl := (hf.fp rb _ hf.os).2
  generalize (M (k : Int))[i]!.a = ta at *
  generalize (M (k : Int))[i]!.f = tf at *
  generalize (M (k : Int)).length = m at *
  have HK := Lib.hid (fun W (hb : Below w.heap.size w W) => (⟨(hb.cell (p := ⟨rb, 9 + k, none⟩) hrl).trans hc, (hb.cell (p := ⟨g, o + i * 2, none⟩) hgl).trans q3, (hb.cell (p := ⟨g, o + i * 2 + 1, none⟩) hgl).trans q5⟩ : _ ∧ _ ∧ _))
  clear q1 q2 q3 q4 q5 q6 hc hf e1 e2 og og2
  go_enter Tryz.func66, Tryz.ntmps66
  go_wp2_with fail
  have hbb : Below w.heap.size w ((w.alloc (.cells #[.int .i64 (k : Int), .int .i64 (i : Int)] 176)).alloc (.cells #[.int .u64 0, .int .u64 0] 171)) := (below1 w _).alloc (by simp) _
  have hnew : ((w.alloc (.cells #[.int .i64 (k : Int), .int .i64 (i : Int)] 176)).alloc (.cells #[.int .u64 0, .int .u64 0] 171)).heap[w.heap.size]? = some (.cells #[.int .i64 (k : Int), .int .i64 (i : Int)] 176 (0, 0)) :=
    (Below.heap_alloc _ _ _ (by simp)).trans (heap_alloc_new w _)
  refine (HT.out _ hbb).mono ?_
  rintro e w1 ⟨rfl, hb1⟩
  have hnew1 := (hb1.block _ (by simp; omega)).trans hnew
  have c0 : w1.cell? ⟨w.heap.size, 0, none⟩ = some (.int .i64 (k : Int)) := cell_row hnew1 0
  have c1 : w1.cell? ⟨w.heap.size, 1, none⟩ = some (.int .i64 (i : Int)) := cell_row hnew1 1
  have hx := pair_facts hb1
  rw [show (w.alloc (.cells #[Value.int .i64 (k : Int), .int .i64 (i : Int)] 176)).heap.size = w.heap.size + 1 by simp] at hx
  have HB := Lib.hid (hbb.trans (hb1.mono hbb.size))
  obtain ⟨k0, k1, k2⟩ := HK.out w1 HB.out
  clear hb1 hbb hnew hnew1
  obtain ⟨X, hX⟩ : ∃ X, X = w.heap.size + 1 := ⟨_, rfl⟩
  have HX := Lib.hid hX
  rw [← hX] at hx ⊢
  have x0 : w1.cell? ⟨X, 0, none⟩ = some (.int .u64 0) := cell_row hx 0
  have x1 : w1.cell? ⟨X, 1, none⟩ = some (.int .u64 0) := cell_row hx 1
  have f0 : w1.frozen? ⟨X, 0, none⟩ = false := froz_row hx 0
  have f1 : w1.frozen? ⟨X, 1, none⟩ = false := froz_row hx 1
  have hp := pair_set hx (.int .u64 ta) (.int .u64 tf)
  have S0 := Lib.hid (show _ = some (Value.int .u64 ta) from cell_row hp 0); have S1 := Lib.hid (show _ = some (Value.int .u64 tf) from cell_row hp 1)
  clear hx hX hp
  go_upto_region 3 with (fail)
  go_region
  go_wp2_with fail
  refine bodyPost_ret (v := .agg #[.int .u64 ta, .int .u64 tf]) (by simp [results, Tryz.results66, go_sem, S0.out, S1.out]) rfl ⟨rfl, ?_⟩
  exact (HB.out.trans ((turns2 w1 X _ _).below HB.out.size (fun k hk e => by have := HX.out; omega))).drew
end
end Go.Proofs.YthafnphpcdbnlaaGreatDoor.S10
