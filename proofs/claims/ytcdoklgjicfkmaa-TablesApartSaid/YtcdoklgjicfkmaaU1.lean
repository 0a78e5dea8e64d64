/- The document's set, as it lies: Has, there, Queue, Timer. -/
import Derived.Test.YtcdoklgjicfkmaaT9
namespace Go.Proofs.Ytcdoklgjicfkmaa
open Go.RowKit

/-- Timers, one behind the other: at, fired. -/
def tcell (L : List Bk) (j : Nat) : Value := if j % 2 = 0 then .int .u64 L[j / 2]!.a else .int .u64 L[j / 2]!.f
def tflat (L : List Bk) : List Value := (List.range (L.length * 2)).map (tcell L)
theorem tflat_len (L : List Bk) : (tflat L).length = L.length * 2 := by simp [tflat]
theorem tflat_at (L : List Bk) {j : Nat} (h : j < L.length * 2) : (tflat L)[j]? = some (tcell L j) := by simp [tflat, h]
theorem tflat_get (L : List Bk) {i : Nat} (h : i < L.length) : (tflat L)[i * 2]? = some (.int .u64 L[i]!.a) ∧ (tflat L)[i * 2 + 1]? = some (.int .u64 L[i]!.f) := by
  refine ⟨?_, ?_⟩
  · rw [tflat_at L (by omega)]
    simp [tcell]
  · rw [tflat_at L (by omega)]
    simp [tcell, Nat.add_mod, show (i * 2 + 1) / 2 = i by omega]
theorem tflat_ext {L' : List Bk} {cs : List Value} (hl : cs.length = L'.length * 2) (h : ∀ j, j < L'.length * 2 → cs[j]? = some (tcell L' j)) : cs = tflat L' := by
  refine List.ext_getElem? fun j => ?_
  by_cases hj : j < L'.length * 2
  · rw [h j hj, tflat_at L' hj]
  · rw [List.getElem?_eq_none (by omega), List.getElem?_eq_none (by rw [tflat_len]; omega)]
theorem tflat_set (L : List Bk) {i : Nat} (h : i < L.length) (a f : Int) : ((tflat L).set (i * 2) (.int .u64 a)).set (i * 2 + 1) (.int .u64 f) = tflat (L.set i { L[i]! with a := a, f := f }) := by
  refine tflat_ext (by simp [tflat_len]) fun j hj => ?_
  rw [List.length_set] at hj
  unfold tcell
  rw [get_set h]
  by_cases e : j = i * 2 + 1
  · subst e
    rw [List.getElem?_set_self (by rw [List.length_set, tflat_len]; omega)]
    simp [Nat.add_mod, show (i * 2 + 1) / 2 = i by omega]
  · rw [List.getElem?_set_ne (fun e' => e e'.symm)]
    by_cases e0 : j = i * 2
    · subst e0
      rw [List.getElem?_set_self (by rw [tflat_len]; omega)]
      simp
    · rw [List.getElem?_set_ne (fun e' => e0 e'.symm), tflat_at L hj]
      unfold tcell
      rw [if_neg (show ¬ j / 2 = i by omega)]
/-- Where a queue is put, the timers stay. -/
theorem tflat_q (L : List Bk) {i : Nat} (h : i < L.length) (q : List Ent) : tflat (L.set i { L[i]! with q := q }) = tflat L := by
  refine (tflat_ext (by simp [tflat_len]) fun j hj => ?_).symm
  rw [List.length_set] at hj
  rw [tflat_at L hj]
  unfold tcell
  rw [get_set h]
  by_cases e : j / 2 = i
  · subst e; simp
  · rw [if_neg e]
theorem tflat_hollow (L : List Bk) : tflat (hollow L) = tflat L := by
  refine (tflat_ext (by simp [tflat_len, hollow_len]) fun j hj => ?_).symm
  rw [hollow_len] at hj
  rw [tflat_at L hj]
  unfold tcell
  rw [hollow_at L (by omega)]
def qflat (n : Nat) (V : Nat → Value) : List Value := (List.range n).map V
theorem qflat_len (n : Nat) (V : Nat → Value) : (qflat n V).length = n := by simp [qflat]
theorem qflat_at {n i : Nat} (V : Nat → Value) (h : i < n) : (qflat n V)[i]? = some (V i) := by simp [qflat, h]
theorem qflat_set (n : Nat) (V : Nat → Value) {i : Nat} (h : i < n) (v : Value) : (qflat n V).set i v = qflat n (upd V i v) := by
  refine List.ext_getElem? fun j => ?_
  by_cases hj : j < n
  · by_cases e : j = i
    · subst e
      rw [List.getElem?_set_self (by rw [qflat_len]; exact hj), qflat_at _ hj, upd_same]
    · rw [List.getElem?_set_ne (fun e' => e e'.symm), qflat_at _ hj, qflat_at _ hj, upd_ne _ _ e]
  · rw [List.getElem?_eq_none (by rw [List.length_set, qflat_len]; omega), List.getElem?_eq_none (by rw [qflat_len]; omega)]

structure RtF (w : World) (base : Nat) (own : Nat → Option Role) (s : Value) (M : Int → List Bk) (rb : Nat) (Q T : Nat → Value) (V : Nat → Nat → Value) : Prop where
  fp : ∀ g r, own g = some r → base ≤ g ∧ g < w.heap.size
  hs : s = .pointer (some ⟨rb, 0, none⟩)
  os : own rb = some .set
  hQ : ∀ k, k < 9 → w.cell? ⟨rb, k, none⟩ = some (Q k) ∧ w.frozen? ⟨rb, k, none⟩ = false
  hT : ∀ k, k < 9 → w.cell? ⟨rb, 9 + k, none⟩ = some (T k) ∧ w.frozen? ⟨rb, 9 + k, none⟩ = false
  no : ∀ b, (b < 2 ∨ 8 < b) → M b = []
  hq : ∀ k : Nat, k < 9 → Row w 0 1 (Q k) (M (k : Int)).length (qflat (M (k : Int)).length (V k))
  ht : ∀ k : Nat, k < 9 → Row w 0 2 (T k) (M (k : Int)).length (tflat (M (k : Int)))
  hv : ∀ (k : Nat) i, i < (M (k : Int)).length → RowE w 0 (V k i) (M (k : Int))[i]!.q
  oq : ∀ k g, k < 9 → (Q k).ownBlock = some g → own g = some (.tab (k : Nat))
  ot : ∀ k g, k < 9 → (T k).ownBlock = some g → own g = some (.tim (k : Nat))
  ov : ∀ (k : Nat) i g, i < (M (k : Int)).length → (V k i).ownBlock = some g → own g = some (.q (k : Nat) i)
def Rt (w : World) (base : Nat) (own : Nat → Option Role) (s : Value) (M : Int → List Bk) : Prop := ∃ rb Q T V, RtF w base own s M rb Q T V
section
variable {w : World} {base : Nat} {own : Nat → Option Role} {s : Value} {M : Int → List Bk} {rb : Nat} {Q T : Nat → Value} {V : Nat → Nat → Value}
theorem RtF.keep (h : RtF w base own s M rb Q T V) {S : Nat → Prop} {w' : World} (t : Turns S w w') (hn : ∀ g, Mine own g → ¬ S g) : RtF w' base own s M rb Q T V := by
  have hlt := (h.fp rb _ h.os).2
  have hno := hn rb ⟨_, h.os⟩
  exact ⟨fun g r e => ⟨(h.fp g r e).1, Nat.lt_of_lt_of_le (h.fp g r e).2 t.size⟩, h.hs, h.os, fun k hk => ⟨(t.cell hlt hno).trans (h.hQ k hk).1, (t.frozen hlt hno).trans (h.hQ k hk).2⟩, fun k hk => ⟨(t.cell hlt hno).trans (h.hT k hk).1, (t.frozen hlt hno).trans (h.hT k hk).2⟩, h.no,
    fun k hk => (h.hq k hk).keep t (fun g e => hn g ⟨_, h.oq k g hk e⟩), fun k hk => (h.ht k hk).keep t (fun g e => hn g ⟨_, h.ot k g hk e⟩), fun k i hi => (h.hv k i hi).keep t (fun g e => hn g ⟨_, h.ov k i g hi e⟩), h.oq, h.ot, h.ov⟩
theorem Rt.keep (h : Rt w base own s M) {S : Nat → Prop} {w' : World} (t : Turns S w w') (hn : ∀ g, Mine own g → ¬ S g) : Rt w' base own s M := by
  obtain ⟨rb, Q, T, V, h⟩ := h
  exact ⟨rb, Q, T, V, h.keep t hn⟩
theorem RtF.new (h : RtF w base own s M rb Q T V) {w' : World} (hb : Below w.heap.size w w') : RtF w' base own s M rb Q T V := h.keep (Turns.of_below (S := fun _ => False) hb) (fun _ _ e => e)
theorem Rt.new (h : Rt w base own s M) {w' : World} (hb : Below w.heap.size w w') : Rt w' base own s M := h.keep (Turns.of_below (S := fun _ => False) hb) (fun _ _ e => e)
theorem Rt.fp (h : Rt w base own s M) {g : Nat} (e : Mine own g) : base ≤ g ∧ g < w.heap.size := by
  obtain ⟨rb, Q, T, V, h⟩ := h
  obtain ⟨r, e⟩ := e
  exact h.fp g r e
theorem RtF.ne (h : RtF w base own s M rb Q T V) {g g' : Nat} {r r' : Role} (e : own g = some r) (e' : own g' = some r') (hr : r ≠ r') : g ≠ g' := fun h' => by
  subst h'
  rw [e] at e'
  exact hr (by simpa using e')
theorem RtF.nat (h : RtF w base own s M rb Q T V) {b : Int} (hb : M b ≠ []) : ∃ k : Nat, b = (k : Int) ∧ 2 ≤ k ∧ k < 9 := by
  by_cases h0 : b < 2 ∨ 8 < b
  · exact absurd (h.no b h0) hb
  · exact ⟨b.toNat, by omega, by omega, by omega⟩
theorem rhas_any (h : Rt w base own s M) (b : Int) : Calls Try.prog 39 #[s, .int .i64 b] w fun e w' => e = .returned (.bool (decide (0 < (M b).length))) ∧ w = w' := by
  obtain ⟨rb, Q, T, V, h⟩ := h
  obtain rfl := h.hs
  by_cases h0 : 2 ≤ b
  · by_cases h1 : b ≤ 8
    · obtain ⟨k, rfl⟩ := Int.eq_ofNat_of_zero_le (show 0 ≤ b by omega)
      obtain ⟨A, c, e, h2, h3⟩ := (h.ht k (by omega)).shape
      have hc := (h.hT k (by omega)).1
      rw [e] at hc
      generalize (M (k : Int)).length = m at *
      have hk9 : k < 9 := by omega
      have d0 : decide (2 ≤ (k : Int)) = true := by simpa using h0
      have d1 : decide ((k : Int) ≤ 8) = true := by simpa using h1
      clear h e h0 h1
      go_enter Try.func39, Try.ntmps39
      go_wp2_with fail
      go_ret
      exact ⟨by simp, rfl⟩
    · rw [h.no b (by omega)]
      have d0 : decide (2 ≤ b) = true := by simpa using h0
      have d1 : decide (b ≤ 8) = false := by simpa using h1
      clear h h0 h1
      go_enter Try.func39, Try.ntmps39
      go_wp2_with fail
      go_ret
      exact ⟨rfl, rfl⟩
  · rw [h.no b (by omega)]
    have d0 : decide (2 ≤ b) = false := by simpa using h0
    clear h h0
    go_enter Try.func39, Try.ntmps39
    go_wp2_with fail
    go_ret
    exact ⟨rfl, rfl⟩
end
end Go.Proofs.Ytcdoklgjicfkmaa
