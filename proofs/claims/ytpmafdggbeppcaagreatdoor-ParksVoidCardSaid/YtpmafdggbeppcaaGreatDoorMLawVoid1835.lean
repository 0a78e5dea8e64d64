/- Texts of this seat, one behind the other. -/
import Derived.Test.YtpmafdggbeppcaaGreatDoorMLawVoid1834
set_option linter.unusedVariables false
set_option linter.unusedSimpArgs false
namespace Go.Proofs.YtpmafdggbeppcaaGreatDoor.S10
open Go.Proofs.YtpmafdggbeppcaaGreatDoor
open Go.RowKit
def tcell (L : List Bk) (j : Nat) : Value := if j % 2 = 0 then .int .u64 L[j / 2]!.a else .int .u64 L[j / 2]!.f
def tflat (L : List Bk) : List Value := (List.range (L.length * 2)).map (tcell L)
theorem tflat_len (L : List Bk) : (tflat L).length = L.length * 2 := by simp [tflat]
theorem tflat_at (L : List Bk) {j : Nat} (h : j < L.length * 2) : (tflat L)[j]? = some (tcell L j) := by simp [tflat, h]
theorem tflat_get (L : List Bk) {i : Nat} (h : i < L.length) : (tflat L)[i * 2]? = some (.int .u64 L[i]!.a) ∧ (tflat L)[i * 2 + 1]? = some (.int .u64 L[i]!.f) := by
  refine ⟨?_, ?_⟩
  · rw [tflat_at L (by omega)]
    simp [tcell]
  · rw [tflat_at L (by omega)]
    simp [tcell, Nat.add_mod, show (i * 2 + 1) / 2 = i by omega]
theorem tflat_ext {L' : List Bk} {cs : List Value} (hl : cs.length = L'.length * 2) (h : ∀ j, j < L'.length * 2 → cs[j]? = some (tcell L' j)) : cs = tflat L' := by
  refine List.ext_getElem? fun j => ?_
  by_cases hj : j < L'.length * 2
  · rw [h j hj, tflat_at L' hj]
  · rw [List.getElem?_eq_none (by omega), List.getElem?_eq_none (by rw [tflat_len]; omega)]
theorem tflat_set (L : List Bk) {i : Nat} (h : i < L.length) (a f : Int) : ((tflat L).set (i * 2) (.int .u64 a)).set (i * 2 + 1) (.int .u64 f) = tflat (L.set i { L[i]! with a := a, f := f }) := by
  refine tflat_ext (by simp [tflat_len]) fun j hj => ?_
  rw [List.length_set] at hj
  unfold tcell
  rw [get_set h]
  by_cases e : j = i * 2 + 1
  · subst e
    rw [List.getElem?_set_self (by rw [List.length_set, tflat_len]; omega)]
    simp [Nat.add_mod, show (i * 2 + 1) / 2 = i by omega]
  · rw [List.getElem?_set_ne (fun e' => e e'.symm)]
    by_cases e0 : j = i * 2
    · subst e0
      rw [List.getElem?_set_self (by rw [tflat_len]; omega)]
      simp
    · rw [List.getElem?_set_ne (fun e' => e0 e'.symm), tflat_at L hj]
      unfold tcell
      rw [if_neg (show ¬ j / 2 = i by omega)]
theorem tflat_q (L : List Bk) {i : Nat} (h : i < L.length) (q : List Ent) : tflat (L.set i { L[i]! with q := q }) = tflat L := by
  refine (tflat_ext (by simp [tflat_len]) fun j hj => ?_).symm
  rw [List.length_set] at hj
  rw [tflat_at L hj]
  unfold tcell
  rw [get_set h]
  by_cases e : j / 2 = i
  · subst e; simp
  · rw [if_neg e]
theorem tflat_hollow (L : List Bk) : tflat (hollow L) = tflat L := by
  refine (tflat_ext (by simp [tflat_len, hollow_len]) fun j hj => ?_).symm
  rw [hollow_len] at hj
  rw [tflat_at L hj]
  unfold tcell
  rw [hollow_at L (by omega)]
def qflat (n : Nat) (V : Nat → Value) : List Value := (List.range n).map V
theorem qflat_len (n : Nat) (V : Nat → Value) : (qflat n V).length = n := by simp [qflat]
theorem qflat_at {n i : Nat} (V : Nat → Value) (h : i < n) : (qflat n V)[i]? = some (V i) := by simp [qflat, h]
theorem qflat_set (n : Nat) (V : Nat → Value) {i : Nat} (h : i < n) (v : Value) : (qflat n V).set i v = qflat n (upd V i v) := by
  refine List.ext_getElem? fun j => ?_
  by_cases hj : j < n
  · by_cases e : j = i
    · subst e
      rw [List.getElem?_set_self (by rw [qflat_len]; exact hj), qflat_at _ hj, upd_same]
    · rw [List.getElem?_set_ne (fun e' => e e'.symm), qflat_at _ hj, qflat_at _ hj, upd_ne _ _ e]
  · rw [List.getElem?_eq_none (by rw [List.length_set, qflat_len]; omega), List.getElem?_eq_none (by rw [qflat_len]; omega)]
structure RtF (w : World) (base : Nat) (own : Nat → Option Role) (s : Value) (M : Int → List Bk) (rb : Nat) (Q T : Nat → Value) (V : Nat → Nat → Value) : Prop where
  fp : ∀ g r, own g = some r → base ≤ g ∧ g < w.heap.size
  hs : s = .pointer (some ⟨rb, 0, none⟩)
  os : own rb = some .set
  hQ : ∀ k, k < 9 → w.cell? ⟨rb, k, none⟩ = some (Q k) ∧ w.frozen? ⟨rb, k, none⟩ = false
  hT : ∀ k, k < 9 → w.cell? ⟨rb, 9 + k, none⟩ = some (T k) ∧ w.frozen? ⟨rb, 9 + k, none⟩ = false
  no : ∀ b, (b < 2 ∨ 8 < b) → M b = []
  hq : ∀ k : Nat, k < 9 → Row w 0 1 (Q k) (M (k : Int)).length (qflat (M (k : Int)).length (V k))
  ht : ∀ k : Nat, k < 9 → Row w 0 2 (T k) (M (k : Int)).length (tflat (M (k : Int)))
  hv : ∀ (k : Nat) i, i < (M (k : Int)).length → RowE w 0 (V k i) (M (k : Int))[i]!.q
  oq : ∀ k g, k < 9 → (Q k).ownBlock = some g → own g = some (.tab (k : Nat))
  ot : ∀ k g, k < 9 → (T k).ownBlock = some g → own g = some (.tim (k : Nat))
  ov : ∀ (k : Nat) i g, i < (M (k : Int)).length → (V k i).ownBlock = some g → own g = some (.q (k : Nat) i)
def Rt (w : World) (base : Nat) (own : Nat → Option Role) (s : Value) (M : Int → List Bk) : Prop := ∃ rb Q T V, RtF w base own s M rb Q T V
section
variable {w : World} {base : Nat} {own : Nat → Option Role} {s : Value} {M : Int → List Bk} {rb : Nat} {Q T : Nat → Value} {V : Nat → Nat → Value}
theorem RtF.keep (h : RtF w base own s M rb Q T V) {S : Nat → Prop} {w' : World} (t : Turns S w w') (hn : ∀ g, Mine own g → ¬ S g) : RtF w' base own s M rb Q T V := by
  have hlt := (h.fp rb _ h.os).2
  have hno := hn rb ⟨_, h.os⟩
  exact ⟨fun g r e => ⟨(h.fp g r e).1, Nat.lt_of_lt_of_le (h.fp g r e).2 t.size⟩, h.hs, h.os, fun k hk => ⟨(t.cell hlt hno).trans (h.hQ k hk).1, (t.frozen hlt hno).trans (h.hQ k hk).2⟩, fun k hk => ⟨(t.cell hlt hno).trans (h.hT k hk).1, (t.frozen hlt hno).trans (h.hT k hk).2⟩, h.no,
    fun k hk => (h.hq k hk).keep t (fun g e => hn g ⟨_, h.oq k g hk e⟩), fun k hk => (h.ht k hk).keep t (fun g e => hn g ⟨_, h.ot k g hk e⟩), fun k i hi => (h.hv k i hi).keep t (fun g e => hn g ⟨_, h.ov k i g hi e⟩), h.oq, h.ot, h.ov⟩
theorem Rt.keep (h : Rt w base own s M) {S : Nat → Prop} {w' : World} (t : Turns S w w') (hn : ∀ g, Mine own g → ¬ S g) : Rt w' base own s M := by
  obtain ⟨rb, Q, T, V, h⟩ := h
  exact ⟨rb, Q, T, V, h.keep t hn⟩
theorem RtF.new (h : RtF w base own s M rb Q T V) {w' : World} (hb : Below w.heap.size w w') : RtF w' base own s M rb Q T V := h.keep (Turns.of_below (S := fun _ => False) hb) (fun _ _ e => e)
theorem Rt.new (h : Rt w base own s M) {w' : World} (hb : Below w.heap.size w w') : Rt w' base own s M := h.keep (Turns.of_below (S := fun _ => False) hb) (fun _ _ e => e)
theorem Rt.fp (h : Rt w base own s M) {g : Nat} (e : Mine own g) : base ≤ g ∧ g < w.heap.size := by
  obtain ⟨rb, Q, T, V, h⟩ := h
  obtain ⟨r, e⟩ := e
  exact h.fp g r e
theorem RtF.ne (h : RtF w base own s M rb Q T V) {g g' : Nat} {r r' : Role} (e : own g = some r) (e' : own g' = some r') (hr : r ≠ r') : g ≠ g' := fun h' => by
  subst h'
  rw [e] at e'
  exact hr (by simpa using e')
theorem RtF.nat (h : RtF w base own s M rb Q T V) {b : Int} (hb : M b ≠ []) : ∃ k : Nat, b = (k : Int) ∧ 2 ≤ k ∧ k < 9 := by
  by_cases h0 : b < 2 ∨ 8 < b
  · exact absurd (h.no b h0) hb
  · exact ⟨b.toNat, by omega, by omega, by omega⟩
theorem rhas_any (h : Rt w base own s M) (b : Int) : Calls Tryz.prog 50 #[s, .int .i64 b] w fun e w' => e = .returned (.bool (decide (0 < (M b).length))) ∧ w = w' := by
  obtain ⟨rb, Q, T, V, h⟩ := h
  obtain rfl := h.hs
  by_cases h0 : 2 ≤ b
  · by_cases h1 : b ≤ 8
    · obtain ⟨k, rfl⟩ := Int.eq_ofNat_of_zero_le (show 0 ≤ b by omega)
      obtain ⟨A, c, e, h2, h3⟩ := (h.ht k (by omega)).shape
      have hc := (h.hT k (by omega)).1
      rw [e] at hc
      generalize (M (k : Int)).length = m at *
      have hk9 : k < 9 := by omega
      have d0 : decide (2 ≤ (k : Int)) = true := by simpa using h0
      have d1 : decide ((k : Int) ≤ 8) = true := by simpa using h1
      clear h e h0 h1
      go_enter Tryz.func50, Tryz.ntmps50
      go_wp2_with fail
      go_ret
      exact ⟨by simp, rfl⟩
    · rw [h.no b (by omega)]
      have d0 : decide (2 ≤ b) = true := by simpa using h0
      have d1 : decide (b ≤ 8) = false := by simpa using h1
      clear h h0 h1
      go_enter Tryz.func50, Tryz.ntmps50
      go_wp2_with fail
      go_ret
      exact ⟨rfl, rfl⟩
  · rw [h.no b (by omega)]
    have d0 : decide (2 ≤ b) = false := by simpa using h0
    clear h h0
    go_enter Tryz.func50, Tryz.ntmps50
    go_wp2_with fail
    go_ret
    exact ⟨rfl, rfl⟩
end
end Go.Proofs.YtpmafdggbeppcaaGreatDoor.S10
namespace Go.Proofs.YtpmafdggbeppcaaGreatDoor.S10
open Go.Proofs.YtpmafdggbeppcaaGreatDoor
open Go.RowKit
theorem below_drewN (w : World) (n : Nat) : Below w.heap.size w (w.drewN n) := ⟨rfl, rfl, rfl, Nat.le_refl _, fun _ _ => rfl⟩
def thereB (M : Int → List Bk) (b i : Int) : Bool := decide (0 ≤ i) && decide (i < ((M b).length : Int))
section
variable {w : World} {base : Nat} {own : Nat → Option Role} {s : Value} {M : Int → List Bk}
theorem there_any (h : Rt w base own s M) (b i : Int) : Calls Tryz.prog 91 #[s, .agg #[.int .i64 b, .int .i64 i]] w fun e w' => e = .returned (.bool (thereB M b i)) ∧ Below w.heap.size w w' := by
  have HH := Lib.hid (fun W hb => rhas_any (h.new (w' := W) hb) b)
  unfold thereB
  by_cases h0 : M b = []
  · rw [h0]
    have e0 : (decide (0 ≤ i) && decide (i < (([] : List Bk).length : Int))) = false := by
      by_cases hi : 0 ≤ i
      · have : ¬ i < 0 := by omega
        simp [this]
      · simp [hi]
    rw [e0]
    have hd : decide (0 < (M b).length) = false := by rw [h0]; decide
    rw [hd] at HH
    clear h h0 hd e0
    go_enter Tryz.func91, Tryz.ntmps91
    go_upto_region 1 with (fail)
    have hb1 := below1 w (.cells #[.int .i64 b, .int .i64 i] 128)
    have hnew := heap_alloc_new w (.cells #[.int .i64 b, .int .i64 i] 128)
    have c0 := cell_row hnew 0; have c1 := cell_row hnew 1
    generalize hw1 : w.alloc (.cells #[.int .i64 b, .int .i64 i] 128) = w1 at *
    have HB := Lib.hid hb1
    clear hnew hb1 hw1
    have c0' : w1.cell? ⟨w.heap.size, 0, none⟩ = some (.int .i64 b) := c0
    have c1' : w1.cell? ⟨w.heap.size, 1, none⟩ = some (.int .i64 i) := c1
    clear c0 c1
    go_quiet ((go_at_call 50; refine Calls.quiet_of_same ((HH.out _ (HB.out.trans ((below_drewN w1 _).mono HB.out.size))).mono fun _ _ h => ⟨h.1, h.2.symm⟩)))
    go_wp2_with fail
    go_ret
    exact ⟨rfl, HB.out.trans ((below_drewN w1 nq).mono HB.out.size)⟩
  · have hd : decide (0 < (M b).length) = true := by simpa using List.length_pos_iff.2 h0
    rw [hd] at HH
    obtain ⟨rb, Q, T, V, hf⟩ := h
    obtain ⟨k, rfl, hk2, hk9⟩ := hf.nat h0
    obtain rfl := hf.hs
    obtain ⟨A, c, e, h2, h3⟩ := (hf.ht k hk9).shape
    have hc := (hf.hT k hk9).1
    rw [e] at hc
    have hrl := (hf.fp rb _ hf.os).2
    generalize (M (k : Int)).length = m at *
    clear hf e h0 hd
    by_cases h0 : 0 ≤ i
    · have d0 : decide (0 ≤ i) = true := by simpa using h0
      rw [d0]
      simp only [Bool.true_and]
      go_enter Tryz.func91, Tryz.ntmps91
      go_upto_region 1 with (fail)
      have hb1 := below1 w (.cells #[.int .i64 (k : Int), .int .i64 i] 128)
      have hnew := heap_alloc_new w (.cells #[.int .i64 (k : Int), .int .i64 i] 128)
      have c0 := cell_row hnew 0; have c1 := cell_row hnew 1
      have hc1 := (hb1.cell (p := ⟨rb, 9 + k, none⟩) hrl).trans hc
      generalize hw1 : w.alloc (.cells #[.int .i64 (k : Int), .int .i64 i] 128) = w1 at *
      have HB := Lib.hid hb1
      clear hnew hb1 hw1
      have c0' : w1.cell? ⟨w.heap.size, 0, none⟩ = some (.int .i64 (k : Int)) := c0
      have c1' : w1.cell? ⟨w.heap.size, 1, none⟩ = some (.int .i64 i) := c1
      clear c0 c1
      go_quiet ((go_at_call 50; refine Calls.quiet_of_same ((HH.out _ (HB.out.trans ((below_drewN w1 _).mono HB.out.size))).mono fun _ _ h => ⟨h.1, h.2.symm⟩)))
      go_wp2_with fail
      go_ret
      exact ⟨rfl, HB.out.trans ((below_drewN w1 nq).mono HB.out.size)⟩
    · have d0 : decide (0 ≤ i) = false := by simpa using h0
      rw [d0]
      simp only [Bool.false_and]
      go_enter Tryz.func91, Tryz.ntmps91
      go_upto_region 1 with (fail)
      have hb1 := below1 w (.cells #[.int .i64 (k : Int), .int .i64 i] 128)
      have hnew := heap_alloc_new w (.cells #[.int .i64 (k : Int), .int .i64 i] 128)
      have c0 := cell_row hnew 0; have c1 := cell_row hnew 1
      generalize hw1 : w.alloc (.cells #[.int .i64 (k : Int), .int .i64 i] 128) = w1 at *
      have HB := Lib.hid hb1
      clear hnew hb1 hw1
      have c0' : w1.cell? ⟨w.heap.size, 0, none⟩ = some (.int .i64 (k : Int)) := c0
      have c1' : w1.cell? ⟨w.heap.size, 1, none⟩ = some (.int .i64 i) := c1
      clear c0 c1
      go_quiet ((go_at_call 50; refine Calls.quiet_of_same ((HH.out _ (HB.out.trans ((below_drewN w1 _).mono HB.out.size))).mono fun _ _ h => ⟨h.1, h.2.symm⟩)))
      go_wp2_with fail
      go_ret
      exact ⟨rfl, HB.out.trans ((below_drewN w1 nq).mono HB.out.size)⟩
end
end Go.Proofs.YtpmafdggbeppcaaGreatDoor.S10
namespace Go.Proofs.YtpmafdggbeppcaaGreatDoor.S10
open Go.Proofs.YtpmafdggbeppcaaGreatDoor
open Go.RowKit
theorem there_no {M : Int → List Bk} {b i : Int} (h : i < 0 ∨ ((M b).length : Int) ≤ i) : thereB M b i = false := by
  unfold thereB
  rcases h with h | h
  · rw [show decide (0 ≤ i) = false by simpa using h]; rfl
  · rw [show decide (i < ((M b).length : Int)) = false by simpa using h]; simp
theorem there_yes {M : Int → List Bk} {b : Int} {i : Nat} (h : i < (M b).length) : thereB M b (i : Int) = true := by
  unfold thereB
  simp; exact h
section
variable {w : World} {base : Nat} {own : Nat → Option Role} {s : Value} {M : Int → List Bk} {b : Int}
theorem RtF.bk {rb : Nat} {Q T : Nat → Value} {V : Nat → Nat → Value} (h : RtF w base own s M rb Q T V) {k i : Nat} (hk : k < 9) (hi : i < (M (k : Int)).length) :
    ∃ gq oq cq gt ot ct, Q k = .slice (some ⟨gq, oq, none⟩) (M (k : Int)).length cq ∧ T k = .slice (some ⟨gt, ot, none⟩) (M (k : Int)).length ct ∧ own gq = some (.tab (k : Nat)) ∧ own gt = some (.tim (k : Nat)) ∧
      w.cell? ⟨gq, oq + i, none⟩ = some (V k i) ∧ w.frozen? ⟨gq, oq + i, none⟩ = false ∧
      w.cell? ⟨gt, ot + i * 2, none⟩ = some (.int .u64 (M (k : Int))[i]!.a) ∧ w.frozen? ⟨gt, ot + i * 2, none⟩ = false ∧ w.cell? ⟨gt, ot + i * 2 + 1, none⟩ = some (.int .u64 (M (k : Int))[i]!.f) ∧ w.frozen? ⟨gt, ot + i * 2 + 1, none⟩ = false := by
  have hr := h.hq k hk
  obtain ⟨A, c, e, hc, hc9⟩ := hr.shape
  rw [e] at hr
  have ht := h.ht k hk
  obtain ⟨A2, c2, e2, hc2, hc92⟩ := ht.shape
  rw [e2] at ht
  obtain ⟨g, o, rfl⟩ : ∃ g o, A = some ⟨g, o, none⟩ := by
    obtain ⟨A', c', e', _, _, _, h3, h4⟩ := hr
    cases e'
    cases A with
    | none => have := h3 rfl; omega
    | some ad => obtain ⟨g, o, rfl, _⟩ := h4 ad rfl; exact ⟨g, o, rfl⟩
  obtain ⟨g2, o2, rfl⟩ : ∃ g o, A2 = some ⟨g, o, none⟩ := by
    obtain ⟨A', c', e', _, _, _, h3, h4⟩ := ht
    cases e'
    cases A2 with
    | none => have := h3 rfl; omega
    | some ad => obtain ⟨g, o, rfl, _⟩ := h4 ad rfl; exact ⟨g, o, rfl⟩
  obtain ⟨u, hu, q1, q2⟩ := hr.ok (j := i) (by omega)
  rw [qflat_at _ hi] at hu
  cases hu
  obtain ⟨t0, t1⟩ := tflat_get (M (k : Int)) hi
  obtain ⟨u, hu, q3, q4⟩ := ht.ok (j := i * 2) (by omega)
  rw [t0] at hu
  cases hu
  obtain ⟨u, hu, q5, q6⟩ := ht.ok (j := i * 2 + 1) (by omega)
  rw [t1] at hu
  cases hu
  rw [← Nat.add_assoc] at q5 q6
  exact ⟨g, o, c, g2, o2, c2, e, e2, h.oq k g hk (by rw [e]; rfl), h.ot k g2 hk (by rw [e2]; rfl), q1, q2, q3, q4, q5, q6⟩
theorem rqueue_no (h : Rt w base own s M) {i : Int} (hi : i < 0 ∨ ((M b).length : Int) ≤ i) :
    Calls Tryz.prog 56 #[s, .agg #[.int .i64 b, .int .i64 i]] w fun e w' => e = .returned nilS ∧ Below w.heap.size w w' := by
  have HT := Lib.hid (fun o => there_any (h.new (below1 w o)) b i)
  rw [there_no hi] at HT
  clear h hi
  go_enter Tryz.func56, Tryz.ntmps56
  go_wp2_with (go_at_call 91; refine (HT.out _).mono ?_; rintro e w' ⟨rfl, hb1⟩; (have HB1 := Lib.hid hb1); (clear hb1))
  go_ret
  exact ⟨rfl, (below1 w _).trans (HB1.out.mono (by simp))⟩
theorem rqueue_yes (h : Rt w base own s M) {i : Nat} (hi : i < (M b).length) :
    Calls Tryz.prog 56 #[s, .agg #[.int .i64 b, .int .i64 (i : Int)]] w fun e w' => ∃ A' c', e = .returned (.slice A' (M b)[i]!.q.length c') ∧ (M b)[i]!.q.length ≤ c' ∧ c' ≤ 9223372036854775807 ∧ Rd w' w.heap.size A' (flat (M b)[i]!.q) ∧ Below w.heap.size w w' := by
  have HT := Lib.hid (fun o => there_any (h.new (below1 w o)) b i)
  rw [there_yes hi] at HT
  obtain ⟨rb, Q, T, V, hf⟩ := h
  obtain ⟨k, rfl, hk2, hk9⟩ := hf.nat (b := b) (fun e => by rw [e] at hi; simp at hi)
  obtain rfl := hf.hs
  obtain ⟨g, o, c, g2, o2, c2, e1, e2, og, og2, q1, q2, q3, q4, q5, q6⟩ := hf.bk hk9 hi
  have hv := hf.hv k i hi
  obtain ⟨A', c', ev, hc', hc9⟩ := hv.shape
  rw [ev] at hv q1
  have hc := (hf.hQ k hk9).1
  rw [e1] at hc
  have HR := Lib.hid hv.rd
  have hgl := (hf.fp g _ og).2
  have hrl := (hf.fp rb _ hf.os).2
  generalize (M (k : Int))[i]!.q = D at *
  generalize (M (k : Int)).length = m at *
  obtain ⟨n, hn⟩ : ∃ n, n = D.length := ⟨_, rfl⟩
  rw [← hn] at q1 hc' ⊢
  have HN := Lib.hid hn
  have HC' := Lib.hid hc'; have HC9 := Lib.hid hc9
  have HK := Lib.hid (fun W (hb : Below w.heap.size w W) => (⟨(hb.cell (p := ⟨rb, k, none⟩) hrl).trans hc, (hb.cell (p := ⟨g, o + i, none⟩) hgl).trans q1⟩ : _ ∧ _))
  clear hv q1 q2 q3 q4 q5 q6 hc hf e1 e2 og og2 ev hc' hc9 hn
  go_enter Tryz.func56, Tryz.ntmps56
  go_wp2_with fail
  have hnew := heap_alloc_new w (.cells #[.int .i64 (k : Int), .int .i64 (i : Int)] 128)
  refine (HT.out _).mono ?_
  rintro e w1 ⟨rfl, hb1⟩
  have hnew1 := (hb1.block _ (by simp)).trans hnew
  have c0 : w1.cell? ⟨w.heap.size, 0, none⟩ = some (.int .i64 (k : Int)) := cell_row hnew1 0
  have c1 : w1.cell? ⟨w.heap.size, 1, none⟩ = some (.int .i64 (i : Int)) := cell_row hnew1 1
  have HB := Lib.hid ((below1 w _).trans (hb1.mono (by simp)))
  obtain ⟨k0, k1⟩ := HK.out w1 HB.out
  clear hnew hb1 hnew1
  go_upto_region 3 with (fail)
  go_quiet (fail)
  go_wp2_with fail
  go_ret
  have hb2 := HB.out.trans ((below_drewN w1 nq).mono HB.out.size)
  exact ⟨A', c', rfl, HC'.out, HC9.out, HR.out.below hb2 (Nat.le_refl _), hb2⟩
theorem rtimer_no (h : Rt w base own s M) {i : Int} (hi : i < 0 ∨ ((M b).length : Int) ≤ i) :
    Calls Tryz.prog 53 #[s, .agg #[.int .i64 b, .int .i64 i]] w fun e w' => e = .returned (.agg #[.int .u64 0, .int .u64 0]) ∧ Below w.heap.size w w' := by
  have HT := Lib.hid (fun W hW => there_any (h.new (w' := W) hW) b i)
  rw [there_no hi] at HT
  clear h hi
  go_enter Tryz.func53, Tryz.ntmps53
  go_wp2_with fail
  have hbb : Below w.heap.size w ((w.alloc (.cells #[.int .i64 b, .int .i64 i] 128)).alloc (.cells #[.int .u64 0, .int .u64 0] 136)) := (below1 w _).alloc (by simp) _
  refine (HT.out _ hbb).mono ?_
  rintro e w1 ⟨rfl, hb1⟩
  have hx := pair_facts hb1
  rw [show (w.alloc (.cells #[Value.int .i64 b, .int .i64 i] 128)).heap.size = w.heap.size + 1 by simp] at hx
  have HB := Lib.hid (hbb.trans (hb1.mono hbb.size))
  clear hb1 hbb
  obtain ⟨X, hX⟩ : ∃ X, X = w.heap.size + 1 := ⟨_, rfl⟩
  have HX := Lib.hid hX
  rw [← hX] at hx ⊢
  have x0 : w1.cell? ⟨X, 0, none⟩ = some (.int .u64 0) := cell_row hx 0
  have x1 : w1.cell? ⟨X, 1, none⟩ = some (.int .u64 0) := cell_row hx 1
  have f0 : w1.frozen? ⟨X, 0, none⟩ = false := froz_row hx 0
  have f1 : w1.frozen? ⟨X, 1, none⟩ = false := froz_row hx 1
  have hp := pair_set hx (.int .u64 0) (.int .u64 0)
  have S0 := Lib.hid (show _ = some (Value.int .u64 0) from cell_row hp 0); have S1 := Lib.hid (show _ = some (Value.int .u64 0) from cell_row hp 1)
  clear hx hX hp
  go_wp2_with fail
  refine bodyPost_ret (v := .agg #[.int .u64 0, .int .u64 0]) (by simp [results, Tryz.results53, go_sem, S0.out, S1.out]) rfl ⟨rfl, ?_⟩
  exact HB.out.trans ((turns2 w1 X _ _).below HB.out.size (fun k hk e => by have := HX.out; omega))
theorem rtimer_yes (h : Rt w base own s M) {i : Nat} (hi : i < (M b).length) :
    Calls Tryz.prog 53 #[s, .agg #[.int .i64 b, .int .i64 (i : Int)]] w fun e w' => e = .returned (.agg #[.int .u64 (M b)[i]!.a, .int .u64 (M b)[i]!.f]) ∧ Below w.heap.size w w' := by
  have HT := Lib.hid (fun W hW => there_any (h.new (w' := W) hW) b i)
  rw [there_yes hi] at HT
  obtain ⟨rb, Q, T, V, hf⟩ := h
  obtain ⟨k, rfl, hk2, hk9⟩ := hf.nat (b := b) (fun e => by rw [e] at hi; simp at hi)
  obtain rfl := hf.hs
  obtain ⟨g2, o2, c2, g, o, c, e2, e1, og2, og, q1, q2, q3, q4, q5, q6⟩ := hf.bk hk9 hi
  have hc := (hf.hT k hk9).1
  rw [e1] at hc
  have hgl := (hf.fp g _ og).2
  have hrl := (hf.fp rb _ hf.os).2
  generalize (M (k : Int))[i]!.a = ta at *
  generalize (M (k : Int))[i]!.f = tf at *
  generalize (M (k : Int)).length = m at *
  have HK := Lib.hid (fun W (hb : Below w.heap.size w W) => (⟨(hb.cell (p := ⟨rb, 9 + k, none⟩) hrl).trans hc, (hb.cell (p := ⟨g, o + i * 2, none⟩) hgl).trans q3, (hb.cell (p := ⟨g, o + i * 2 + 1, none⟩) hgl).trans q5⟩ : _ ∧ _ ∧ _))
  clear q1 q2 q3 q4 q5 q6 hc hf e1 e2 og og2
  go_enter Tryz.func53, Tryz.ntmps53
  go_wp2_with fail
  have hbb : Below w.heap.size w ((w.alloc (.cells #[.int .i64 (k : Int), .int .i64 (i : Int)] 128)).alloc (.cells #[.int .u64 0, .int .u64 0] 136)) := (below1 w _).alloc (by simp) _
  have hnew : ((w.alloc (.cells #[.int .i64 (k : Int), .int .i64 (i : Int)] 128)).alloc (.cells #[.int .u64 0, .int .u64 0] 136)).heap[w.heap.size]? = some (.cells #[.int .i64 (k : Int), .int .i64 (i : Int)] 128 (0, 0)) :=
    (Below.heap_alloc _ _ _ (by simp)).trans (heap_alloc_new w _)
  refine (HT.out _ hbb).mono ?_
  rintro e w1 ⟨rfl, hb1⟩
  have hnew1 := (hb1.block _ (by simp; omega)).trans hnew
  have c0 : w1.cell? ⟨w.heap.size, 0, none⟩ = some (.int .i64 (k : Int)) := cell_row hnew1 0
  have c1 : w1.cell? ⟨w.heap.size, 1, none⟩ = some (.int .i64 (i : Int)) := cell_row hnew1 1
  have hx := pair_facts hb1
  rw [show (w.alloc (.cells #[Value.int .i64 (k : Int), .int .i64 (i : Int)] 128)).heap.size = w.heap.size + 1 by simp] at hx
  have HB := Lib.hid (hbb.trans (hb1.mono hbb.size))
  obtain ⟨k0, k1, k2⟩ := HK.out w1 HB.out
  clear hb1 hbb hnew hnew1
  obtain ⟨X, hX⟩ : ∃ X, X = w.heap.size + 1 := ⟨_, rfl⟩
  have HX := Lib.hid hX
  rw [← hX] at hx ⊢
  have x0 : w1.cell? ⟨X, 0, none⟩ = some (.int .u64 0) := cell_row hx 0
  have x1 : w1.cell? ⟨X, 1, none⟩ = some (.int .u64 0) := cell_row hx 1
  have f0 : w1.frozen? ⟨X, 0, none⟩ = false := froz_row hx 0
  have f1 : w1.frozen? ⟨X, 1, none⟩ = false := froz_row hx 1
  have hp := pair_set hx (.int .u64 ta) (.int .u64 tf)
  have S0 := Lib.hid (show _ = some (Value.int .u64 ta) from cell_row hp 0); have S1 := Lib.hid (show _ = some (Value.int .u64 tf) from cell_row hp 1)
  clear hx hX hp
  go_upto_region 3 with (fail)
  go_region
  go_wp2_with fail
  refine bodyPost_ret (v := .agg #[.int .u64 ta, .int .u64 tf]) (by simp [results, Tryz.results53, go_sem, S0.out, S1.out]) rfl ⟨rfl, ?_⟩
  exact (HB.out.trans ((turns2 w1 X _ _).below HB.out.size (fun k hk e => by have := HX.out; omega))).drew
end
end Go.Proofs.YtpmafdggbeppcaaGreatDoor.S10
namespace Go.Proofs.YtpmafdggbeppcaaGreatDoor.S10
open Go.Proofs.YtpmafdggbeppcaaGreatDoor
open Go.RowKit
section
variable {w : World} {base : Nat} {own : Nat → Option Role} {s : Value} {M : Int → List Bk} {rb : Nat} {Q T : Nat → Value} {V : Nat → Nat → Value}
theorem upd_len (M : Int → List Bk) (b : Int) (i : Nat) (x : Bk) (b' : Int) : (upd M b ((M b).set i x) b').length = (M b').length := by
  by_cases e : b' = b
  · subst e; rw [upd_same, List.length_set]
  · rw [upd_ne _ _ e]
theorem upd_no {M : Int → List Bk} (h : ∀ b, (b < 2 ∨ 8 < b) → M b = []) (b : Int) (i : Nat) (x : Bk) : ∀ b', (b' < 2 ∨ 8 < b') → upd M b ((M b).set i x) b' = [] := fun b' hb => by
  have := upd_len M b i x b'
  rw [h b' hb] at this
  exact List.eq_nil_of_length_eq_zero (by simpa using this)
theorem RtF.putQ (h : RtF w base own s M rb Q T V) {k i g o c : Nat} (hk : k < 9) (hi : i < (M (k : Int)).length) (hQ : Q k = .slice (some ⟨g, o, none⟩) (M (k : Int)).length c) {w1 : World} (hb : Below w.heap.size w w1) {v : Value} {D : List Ent} (hv : RowE w1 w.heap.size v D) :
    RtF (w1.setCell ⟨g, o + i, none⟩ v) base (ownQ own k i v) s (upd M k ((M k).set i { (M k)[i]! with q := D })) rb Q T (upd V k (upd (V k) i v)) := by
  have h1 := h.new hb
  have hog : own g = some (.tab (k : Nat)) := h.oq k g hk (by rw [hQ]; rfl)
  have hvg : ∀ x, v.ownBlock = some x → w.heap.size ≤ x ∧ x < w1.heap.size := fun x e => hv.lt x e
  have hvx : ∀ x, v.ownBlock = some x → w.heap.size ≤ x := fun x e => (hvg x e).1
  have tset : Turns (fun k => k = g) w1 (w1.setCell ⟨g, o + i, none⟩ v) := (Turns.refl _ w1).setCell _ _ rfl
  have hrb := h.fp rb _ h.os
  have hrg : rb ≠ g := h.ne h.os hog (by simp)
  have hrlt := (h1.fp rb _ h.os).2
  refine ⟨fun x r e => ?_, h.hs, ownQ_keep hvx h.os hrb.2 (by simp), fun j hj => ⟨(tset.cell hrlt hrg).trans (h1.hQ j hj).1, (tset.frozen hrlt hrg).trans (h1.hQ j hj).2⟩, fun j hj => ⟨(tset.cell hrlt hrg).trans (h1.hT j hj).1, (tset.frozen hrlt hrg).trans (h1.hT j hj).2⟩, upd_no h.no _ _ _, fun j hj => ?_, fun j hj => ?_, fun j x hx => ?_, fun j x hj e => ?_, fun j x hj e => ?_, fun j x y hx e => ?_⟩
  · unfold ownQ at e
    have hsz : (w1.setCell ⟨g, o + i, none⟩ v).heap.size = w1.heap.size := by simp [World.setCell]
    rw [hsz]
    by_cases e1 : v.ownBlock = some x
    · have := hvg x e1; omega
    · rw [if_neg e1] at e
      by_cases e2 : own x = some (.q (k : Nat) i)
      · rw [if_pos e2] at e; cases e
      · rw [if_neg e2] at e
        have := h.fp x r e
        have := hb.size
        omega
  · rw [upd_len]
    by_cases e : j = k
    · subst e
      rw [upd_same, ← qflat_set _ _ hi]
      have := h1.hq j hj
      rw [hQ] at this ⊢
      exact this.setAt (i := i) (by omega) v
    · rw [upd_ne _ _ e]
      exact (h1.hq j hj).keep tset (fun x ex => h.ne (h.oq j x hj ex) hog (by simp; exact fun e' => e (by omega)))
  · rw [upd_len]
    have ht : tflat (upd M k ((M k).set i { (M k)[i]! with q := D }) (j : Int)) = tflat (M (j : Int)) := by
      by_cases e : j = k
      · subst e; rw [upd_same, tflat_q _ hi]
      · rw [upd_ne _ _ (by omega)]
    rw [ht]
    exact (h1.ht j hj).keep tset (fun x ex => h.ne (h.ot j x hj ex) hog (by simp))
  · rw [upd_len] at hx
    by_cases e : j = k
    · subst e
      rw [upd_same, upd_same, get_set hi]
      by_cases e2 : x = i
      · subst e2
        rw [if_pos rfl, upd_same]
        exact (hv.keep tset (fun y ey e3 => by have := hvx y ey; have := h.fp g _ hog; omega)).base (Nat.zero_le _)
      · rw [if_neg e2, upd_ne _ _ e2]
        exact (h1.hv j x hx).keep tset (fun y ey => h.ne (h.ov j x y hx ey) hog (by simp))
    · rw [upd_ne _ _ (show (j : Int) ≠ (k : Int) by omega), upd_ne _ _ e]
      exact (h1.hv j x hx).keep tset (fun y ey => h.ne (h.ov j x y hx ey) hog (by simp))
  · exact ownQ_keep hvx (h.oq j x hj e) (h.fp x _ (h.oq j x hj e)).2 (by simp)
  · exact ownQ_keep hvx (h.ot j x hj e) (h.fp x _ (h.ot j x hj e)).2 (by simp)
  · rw [upd_len] at hx
    by_cases e1 : j = k ∧ x = i
    · obtain ⟨rfl, rfl⟩ := e1
      rw [upd_same, upd_same] at e
      unfold ownQ
      rw [if_pos e]
    · have e' : (V j x).ownBlock = some y := by
        by_cases e2 : j = k
        · subst e2
          rw [upd_same, upd_ne _ _ (fun e3 => e1 ⟨rfl, e3⟩)] at e
          exact e
        · rw [upd_ne _ _ e2] at e
          exact e
      exact ownQ_keep hvx (h.ov j x y hx e') (h.fp y _ (h.ov j x y hx e')).2 (by simp; exact fun e2 e3 => e1 ⟨by omega, e3⟩)
theorem RtF.putT (h : RtF w base own s M rb Q T V) {k i g o c : Nat} (hk : k < 9) (hi : i < (M (k : Int)).length) (hT : T k = .slice (some ⟨g, o, none⟩) (M (k : Int)).length c) (ta tf : Int) :
    RtF ((w.setCell ⟨g, o + i * 2, none⟩ (.int .u64 ta)).setCell ⟨g, o + i * 2 + 1, none⟩ (.int .u64 tf)) base own s (upd M k ((M k).set i { (M k)[i]! with a := ta, f := tf })) rb Q T V := by
  have hog : own g = some (.tim (k : Nat)) := h.ot k g hk (by rw [hT]; rfl)
  have tset : Turns (fun k => k = g) w ((w.setCell ⟨g, o + i * 2, none⟩ (.int .u64 ta)).setCell ⟨g, o + i * 2 + 1, none⟩ (.int .u64 tf)) := ((Turns.refl (fun k => k = g) w).setCell ⟨g, o + i * 2, none⟩ _ rfl).setCell ⟨g, o + i * 2 + 1, none⟩ _ rfl
  have hrlt := (h.fp rb _ h.os).2
  have hrg : rb ≠ g := h.ne h.os hog (by simp)
  refine ⟨fun x r e => ?_, h.hs, h.os, fun j hj => ⟨(tset.cell hrlt hrg).trans (h.hQ j hj).1, (tset.frozen hrlt hrg).trans (h.hQ j hj).2⟩, fun j hj => ⟨(tset.cell hrlt hrg).trans (h.hT j hj).1, (tset.frozen hrlt hrg).trans (h.hT j hj).2⟩, upd_no h.no _ _ _, fun j hj => ?_, fun j hj => ?_, fun j x hx => ?_, h.oq, h.ot, fun j x y hx e => ?_⟩
  · have := h.fp x r e
    have := tset.size
    omega
  · rw [upd_len]
    exact (h.hq j hj).keep tset (fun x ex => h.ne (h.oq j x hj ex) hog (by simp))
  · rw [upd_len]
    by_cases e : j = k
    · subst e
      rw [upd_same, ← tflat_set _ hi]
      have := h.ht j hj
      rw [hT] at this ⊢
      have h2 := (this.setAt (i := i * 2) (by omega) (.int .u64 ta)).setAt (i := i * 2 + 1) (by omega) (.int .u64 tf)
      rw [Nat.add_assoc]
      exact h2
    · rw [upd_ne _ _ (show (j : Int) ≠ (k : Int) by omega)]
      exact (h.ht j hj).keep tset (fun x ex => h.ne (h.ot j x hj ex) hog (by simp; omega))
  · rw [upd_len] at hx
    have : (upd M k ((M k).set i { (M k)[i]! with a := ta, f := tf }) (j : Int))[x]!.q = (M (j : Int))[x]!.q := by
      by_cases e : j = k
      · subst e
        rw [upd_same, get_set hi]
        by_cases e2 : x = i
        · subst e2; rw [if_pos rfl]
        · rw [if_neg e2]
      · rw [upd_ne _ _ (by omega)]
    rw [this]
    exact (h.hv j x hx).keep tset (fun y ey => h.ne (h.ov j x y hx ey) hog (by simp))
  · rw [upd_len] at hx
    exact h.ov j x y hx e
variable {b : Int}
theorem rput_no (h : Rt w base own s M) {i : Int} (hi : i < 0 ∨ ((M b).length : Int) ≤ i) (A0 : Option Addr) (m0 c0 : Nat) :
    Calls Tryz.prog 42 #[s, .agg #[.int .i64 b, .int .i64 i], .slice A0 m0 c0] w fun e w' => e = .returned (.bool false) ∧ Below w.heap.size w w' := by
  have HT := Lib.hid (fun o => there_any (h.new (below1 w o)) b i)
  rw [there_no hi] at HT
  clear h hi
  go_enter Tryz.func42, Tryz.ntmps42
  go_wp2_with (go_at_call 91; refine (HT.out _).mono ?_; rintro e w' ⟨rfl, hb1⟩; (have HB1 := Lib.hid hb1); (clear hb1))
  go_ret
  exact ⟨rfl, (below1 w _).trans (HB1.out.mono (by simp))⟩
theorem rputT_no (h : Rt w base own s M) {i : Int} (hi : i < 0 ∨ ((M b).length : Int) ≤ i) (ta tf : Int) :
    Calls Tryz.prog 45 #[s, .agg #[.int .i64 b, .int .i64 i], .agg #[.int .u64 ta, .int .u64 tf]] w fun e w' => e = .returned (.bool false) ∧ Below w.heap.size w w' := by
  have HT := Lib.hid (fun W hW => there_any (h.new (w' := W) hW) b i)
  rw [there_no hi] at HT
  have hbb : Below w.heap.size w ((w.alloc (.cells #[.int .i64 b, .int .i64 i] 128)).alloc (.cells #[.int .u64 ta, .int .u64 tf] 136)) := (below1 w _).alloc (by simp) _
  have HBB := Lib.hid hbb
  clear h hi hbb
  go_enter Tryz.func45, Tryz.ntmps45
  go_wp2_with (go_at_call 91; refine (HT.out _ HBB.out).mono ?_; rintro e w' ⟨rfl, hb1⟩; (have HB1 := Lib.hid hb1); (clear hb1))
  go_ret
  exact ⟨rfl, HBB.out.trans (HB1.out.mono HBB.out.size)⟩
theorem rput_yes (h : Rt w base own s M) {i : Nat} (hi : i < (M b).length) {b0 c0 : Nat} {A0 : Option Addr} {D : List Ent} (hr : Rd w b0 A0 (flat D)) (hb0 : b0 ≤ w.heap.size) (hlen : D.length ≤ 1000000) :
    Calls Tryz.prog 42 #[s, .agg #[.int .i64 b, .int .i64 (i : Int)], .slice A0 D.length c0] w fun e w' => e = .returned (.bool true) ∧ ∃ own', Rt w' base own' s (upd M b ((M b).set i { (M b)[i]! with q := D })) ∧ Turns (Mine own) w w' ∧ Fresh own own' w := by
  have HT := Lib.hid (fun o => there_any (h.new (below1 w o)) b i)
  rw [there_yes hi] at HT
  obtain ⟨rb, Q, T, V, hf⟩ := h
  obtain ⟨k, rfl, hk2, hk9⟩ := hf.nat (b := b) (fun e => by rw [e] at hi; simp at hi)
  obtain rfl := hf.hs
  obtain ⟨g, o, c, g2, o2, c2, e1, e2, og, og2, q1, q2, -⟩ := hf.bk hk9 hi
  have hc := (hf.hQ k hk9).1
  rw [e1] at hc
  have hgl := (hf.fp g _ og).2
  have hrl := (hf.fp rb _ hf.os).2
  have hrg : g ≠ rb := hf.ne og hf.os (by simp)
  have HF := Lib.hid hf; have HI := Lib.hid hi; have HQ := Lib.hid e1; have HR := Lib.hid hr; have HB0 := Lib.hid hb0; have HOG := Lib.hid og
  have hi' := hi
  obtain ⟨m, hm⟩ : ∃ m, m = (M (k : Int)).length := ⟨_, rfl⟩
  rw [← hm] at hi' hc
  obtain ⟨n, hn⟩ : ∃ n, n = D.length := ⟨_, rfl⟩
  have HN := Lib.hid hn
  have HK := Lib.hid (fun W (hb : Below w.heap.size w W) => (⟨(hb.cell (p := ⟨rb, k, none⟩) hrl).trans hc, (hb.cell (p := ⟨g, o + i, none⟩) hgl).trans q1, (hb.frozen (p := ⟨g, o + i, none⟩) hgl).trans q2⟩ : _ ∧ _ ∧ _))
  rw [← hn]
  clear q1 q2 hc hf e1 e2 og og2 hm hn hi hr hb0
  go_enter Tryz.func42, Tryz.ntmps42
  go_wp2_with fail
  have hnew := heap_alloc_new w (.cells #[.int .i64 (k : Int), .int .i64 (i : Int)] 128)
  refine (HT.out _).mono ?_
  rintro e w1 ⟨rfl, hb1⟩
  have hnew1 := (hb1.block _ (by simp)).trans hnew
  have c0' : w1.cell? ⟨w.heap.size, 0, none⟩ = some (.int .i64 (k : Int)) := cell_row hnew1 0
  have c1' : w1.cell? ⟨w.heap.size, 1, none⟩ = some (.int .i64 (i : Int)) := cell_row hnew1 1
  have HB := Lib.hid ((below1 w _).trans (hb1.mono (by simp)))
  obtain ⟨k0, k1, k2⟩ := HK.out w1 HB.out
  have hX1 : w.heap.size < w1.heap.size := by have := hb1.size; simp at this; omega
  have hgX : g ≠ w.heap.size := by omega
  have hbs := HB.out.size
  have hrl1 : rb < w1.heap.size := by omega
  have hgl1 : g < w1.heap.size := by omega
  clear hnew hb1 hnew1
  obtain ⟨X, hX⟩ : ∃ X, X = w.heap.size := ⟨_, rfl⟩
  rw [← hX] at c0' c1' hX1 hgX ⊢
  have hk9i : (k : Int) < 9 := by omega
  have HRD : Hid (Rd w1.drew w1.heap.size A0 (flat D)) := Lib.hid ((HR.out.below HB.out HB0.out).more (Nat.le_trans HB0.out hbs))
  have HB0' := Lib.hid hlen
  clear hX
  go_upto_region 3 with (fail)
  refine wp_region_held_drew (S := fun w' => w'.cell? ⟨X, 0, none⟩ = some (.int .i64 (k : Int)) ∧ w'.cell? ⟨X, 1, none⟩ = some (.int .i64 (i : Int)) ∧ w'.cell? ⟨rb, k, none⟩ = some (.slice (some ⟨g, o, none⟩) m c)) (by kernel_rfl) ?_ (fun hHeld => ?_)
  · exact ⟨c0', c1', k0⟩
  refine tA 0 ⟨some 11, .move (.tmp 0), 79, "ref.go:61", #[], none⟩ ?v0 ?r0
  (try simp only [Act.put, tC, tD, tE])
  refine tA 1 ⟨some 12, .fieldAddr 128 (.tmp 4) 0, 0, "ref.go:61", #[], none⟩ ?v1 ?r1
  (try simp only [Act.put, tC, tD, tE])
  refine tA 2 ⟨some 13, .load 3 (.tmp 12), 3, "ref.go:61", #[⟨1, .data⟩], none⟩ ?v2 ?r2
  (try simp only [Act.put, tC, tD, tE])
  refine tA 3 ⟨some 14, .nilCheck (.tmp 11), 0, "ref.go:61", #[⟨0, .data⟩], none⟩ ?v3 ?r3
  (try simp only [Act.put, tC, tD, tE])
  refine tA 4 ⟨some 15, .fieldAddr 145 (.tmp 14) 0, 0, "ref.go:61", #[⟨3, .data⟩], none⟩ ?v4 ?r4
  (try simp only [Act.put, tC, tD, tE])
  refine tA 5 ⟨some 16, .indexAddr 142 (.tmp 15) (.tmp 13), 0, "ref.go:61", #[⟨4, .data⟩, ⟨2, .data⟩], none⟩ ?v5 ?r5
  (try simp only [Act.put, tC, tD, tE])
  refine tA 6 ⟨some 17, .load 141 (.tmp 16), 141, "ref.go:61", #[⟨5, .data⟩], none⟩ ?v6 ?r6
  (try simp only [Act.put, tC, tD, tE])
  refine tA 7 ⟨some 18, .fieldAddr 128 (.tmp 4) 1, 0, "ref.go:61", #[], none⟩ ?v7 ?r7
  (try simp only [Act.put, tC, tD, tE])
  refine tA 8 ⟨some 19, .load 3 (.tmp 18), 3, "ref.go:61", #[⟨7, .data⟩], none⟩ ?v8 ?r8
  (try simp only [Act.put, tC, tD, tE])
  refine tA 9 ⟨some 20, .move (.tmp 2), 132, "ref.go:61", #[], none⟩ ?v9 ?r9
  (try simp only [Act.put, tC, tD, tE])
  refine wpAnyH_ready (rs := [10]) (by kernel_rfl) (by simp) ?_
  refine AllReadyH.cons (o := ⟨some 21, .call ⟨.builtin .append, #[.const (.slice none 0 0), .tmp 20], #[132, 132]⟩, 132, "ref.go:61", #[⟨9, .data⟩], none⟩) rfl (fun Kq hKq => ?_) AllReadyH.nil
  (refine step_append_row layO rfl _ _ rfl rfl (row_nil _ w1.heap.size 3) (fun u hu => by cases hu) (Nat.le_refl _) c0 rfl HRD.out (by rw [HN.out]; exact flat_len D) (flat_one' D) (by have := HN.out; have := HB0'.out; omega) ?_; intro v2 w2 hr2 ht2 ho2; obtain ⟨A2, cap2, hv2, hn2, hm2⟩ := hr2.shape; rw [Nat.zero_add] at hv2 hn2; subst hv2)
  refine hKq.out _ _ ?_ (fun hHeld => ?_)
  · exact ⟨(ht2.cell hX1 (fun e => by change (none : Option Nat) = some _ at e; cases e)).trans hHeld.1, (ht2.cell hX1 (fun e => by change (none : Option Nat) = some _ at e; cases e)).trans hHeld.2.1, (ht2.cell hrl1 (fun e => by change (none : Option Nat) = some _ at e; cases e)).trans hHeld.2.2⟩
  clear hKq Kq
  (try simp only [Act.put, tC, tD, tE])
  refine tA 11 ⟨some 22, .indexAddr 141 (.tmp 17) (.tmp 19), 0, "ref.go:61", #[⟨6, .data⟩, ⟨8, .data⟩, ⟨0, .phase⟩, ⟨1, .phase⟩, ⟨2, .phase⟩, ⟨3, .phase⟩, ⟨4, .phase⟩, ⟨5, .phase⟩, ⟨6, .phase⟩, ⟨7, .phase⟩, ⟨8, .phase⟩, ⟨9, .phase⟩, ⟨10, .phase⟩], none⟩ ?v11 ?r11
  (try simp only [Act.put, tC, tD, tE])
  refine wpAnyH_ready (rs := [12]) (by kernel_rfl) (by simp) ?_
  refine AllReadyH.cons (o := ⟨none, .store 132 (.tmp 22) (.tmp 21), 0, "ref.go:61", #[⟨11, .data⟩, ⟨10, .data⟩, ⟨10, .chain⟩, ⟨0, .phase⟩, ⟨1, .phase⟩, ⟨2, .phase⟩, ⟨3, .phase⟩, ⟨4, .phase⟩, ⟨5, .phase⟩, ⟨6, .phase⟩, ⟨7, .phase⟩, ⟨8, .phase⟩, ⟨9, .phase⟩, ⟨10, .phase⟩], none⟩) rfl (fun Kq hKq => ?_) AllReadyH.nil
  have k9 := (ht2.cell (g := g) (o := o + i) hgl1 (fun e => by change (none : Option Nat) = some _ at e; cases e)).trans k1; have f9 := (ht2.frozen (g := g) (o := o + i) hgl1 (fun e => by change (none : Option Nat) = some _ at e; cases e)).trans k2; go_simp
  refine hKq.out _ _ ?_ (fun hHeld => ?_)
  · exact ⟨(World.cell?_setCell_other _ _ _ _ (by intro e; injection e with e1; exact hgX e1)).trans hHeld.1, (World.cell?_setCell_other _ _ _ _ (by intro e; injection e with e1; exact hgX e1)).trans hHeld.2.1, (World.cell?_setCell_other _ _ _ _ (by intro e; injection e with e1; exact hrg e1)).trans hHeld.2.2⟩
  clear hKq Kq
  (try simp only [Act.put, tC, tD, tE])
  refine wpAnyH_done (by kernel_rfl) ?_ _
  go_wp2_with fail
  go_ret
  have hb2 : Below w.heap.size w w2 := (HB.out.drew).trans ((ht2.below (Nat.le_refl _) (fun x hx e => by change (none : Option Nat) = some x at e; cases e)).mono hbs)
  have hr3 : RowE w2 w.heap.size (.slice A2 n cap2) D := by
    have := hr2.base hbs
    rw [Nat.zero_add, List.nil_append] at this
    simp only [HN.out] at this ⊢
    exact this
  refine ⟨rfl, _, ⟨rb, Q, T, _, HF.out.putQ hk9 HI.out HQ.out hb2 hr3⟩, (Turns.of_below hb2).setCell _ _ ⟨_, HOG.out⟩, fresh_ownQ _ _ _ (fun x e => (hr3.lt x e).1)⟩
theorem rputT_yes (h : Rt w base own s M) {i : Nat} (hi : i < (M b).length) (ta tf : Int) :
    Calls Tryz.prog 45 #[s, .agg #[.int .i64 b, .int .i64 (i : Int)], .agg #[.int .u64 ta, .int .u64 tf]] w fun e w' => e = .returned (.bool true) ∧ Rt w' base own s (upd M b ((M b).set i { (M b)[i]! with a := ta, f := tf })) ∧ Turns (Mine own) w w' := by
  have HT := Lib.hid (fun W hW => there_any (h.new (w' := W) hW) b i)
  rw [there_yes hi] at HT
  obtain ⟨rb, Q, T, V, hf⟩ := h
  obtain ⟨k, rfl, hk2, hk9⟩ := hf.nat (b := b) (fun e => by rw [e] at hi; simp at hi)
  obtain rfl := hf.hs
  obtain ⟨g2, o2, c2, g, o, c, e2, e1, og2, og, q1, q2, q3, q4, q5, q6⟩ := hf.bk hk9 hi
  have hc := (hf.hT k hk9).1
  rw [e1] at hc
  have hgl := (hf.fp g _ og).2
  have hrl := (hf.fp rb _ hf.os).2
  have hrg : g ≠ rb := hf.ne og hf.os (by simp)
  have HF := Lib.hid hf; have HI := Lib.hid hi; have HQ := Lib.hid e1; have HOG := Lib.hid og
  have hi' := hi
  obtain ⟨m, hm⟩ : ∃ m, m = (M (k : Int)).length := ⟨_, rfl⟩
  rw [← hm] at hi' hc
  have HK := Lib.hid (fun W (hb : Below w.heap.size w W) => (⟨(hb.cell (p := ⟨rb, 9 + k, none⟩) hrl).trans hc, (hb.cell (p := ⟨g, o + i * 2, none⟩) hgl).trans q3, (hb.frozen (p := ⟨g, o + i * 2, none⟩) hgl).trans q4, (hb.cell (p := ⟨g, o + i * 2 + 1, none⟩) hgl).trans q5, (hb.frozen (p := ⟨g, o + i * 2 + 1, none⟩) hgl).trans q6⟩ : _ ∧ _ ∧ _ ∧ _ ∧ _))
  clear q1 q2 q3 q4 q5 q6 hc hf e1 e2 og og2 hm hi
  go_enter Tryz.func45, Tryz.ntmps45
  go_wp2_with fail
  have hbb : Below w.heap.size w ((w.alloc (.cells #[.int .i64 (k : Int), .int .i64 (i : Int)] 128)).alloc (.cells #[.int .u64 ta, .int .u64 tf] 136)) := (below1 w _).alloc (by simp) _
  have hnew : ((w.alloc (.cells #[.int .i64 (k : Int), .int .i64 (i : Int)] 128)).alloc (.cells #[.int .u64 ta, .int .u64 tf] 136)).heap[w.heap.size]? = some (.cells #[.int .i64 (k : Int), .int .i64 (i : Int)] 128 (0, 0)) :=
    (Below.heap_alloc _ _ _ (by simp)).trans (heap_alloc_new w _)
  refine (HT.out _ hbb).mono ?_
  rintro e w1 ⟨rfl, hb1⟩
  have hnew1 := (hb1.block _ (by simp; omega)).trans hnew
  have c0 : w1.cell? ⟨w.heap.size, 0, none⟩ = some (.int .i64 (k : Int)) := cell_row hnew1 0
  have c1 : w1.cell? ⟨w.heap.size, 1, none⟩ = some (.int .i64 (i : Int)) := cell_row hnew1 1
  have hx := pair_facts hb1
  rw [show (w.alloc (.cells #[Value.int .i64 (k : Int), .int .i64 (i : Int)] 128)).heap.size = w.heap.size + 1 by simp] at hx
  have HB := Lib.hid (hbb.trans (hb1.mono hbb.size))
  obtain ⟨k0, k1, k2, k3, k4⟩ := HK.out w1 HB.out
  have x0 : w1.cell? ⟨w.heap.size + 1, 0, none⟩ = some (.int .u64 ta) := cell_row hx 0
  have x1 : w1.cell? ⟨w.heap.size + 1, 1, none⟩ = some (.int .u64 tf) := cell_row hx 1
  have hgX : g ≠ w.heap.size := by omega
  have hgY : g ≠ w.heap.size + 1 := by omega
  clear hb1 hbb hnew hnew1 hx
  obtain ⟨Y, hY⟩ : ∃ Y, Y = w.heap.size + 1 := ⟨_, rfl⟩
  rw [← hY] at x0 x1 hgY ⊢
  clear hY
  obtain ⟨X, hX⟩ : ∃ X, X = w.heap.size := ⟨_, rfl⟩
  rw [← hX] at c0 c1 hgX ⊢
  clear hX
  go_upto_region 3 with (fail)
  go_region
  all_goals
    go_wp2_with fail
    go_ret
    have hS := (HF.out.new HB.out).putT hk9 HI.out HQ.out ta tf
    refine ⟨rfl, ⟨rb, Q, T, V, hS.keep (Turns.refl (fun _ => False) _).drew (fun _ _ e => e)⟩, ?_⟩
    exact (((Turns.of_below HB.out).setCell _ _ ⟨_, HOG.out⟩).setCell _ _ ⟨_, HOG.out⟩).drew
end
end Go.Proofs.YtpmafdggbeppcaaGreatDoor.S10
