/- Some. -/
import Derived.Test.YtemdaafnmjenmaaD1
namespace Go.Proofs.Ytemdaafnmjenmaa
open Go.RowKit

theorem eg33 : ∀ args w, (callFunc 33 args).run Try.prog w = .ok (.enter 33 args) w := enters_of Try.func33 (by kernel_rfl) rfl
/-- How many may still be taken: over the blocks of the key and of the number. -/
def someI (key : Int) (Bk Bm : Nat) (_ : Nat) (m : Int) (F : Nat → Prop) (W : World) : Prop :=
  W.heap[Bk]? = some (.cells #[.int .u32 key] 24 (0, 0)) ∧ W.heap[Bm]? = some (.cells #[.int .i64 m] 3 (0, 0)) ∧ F = (fun b => b = Bm) ∧ -9223372036854775808 ≤ m ∧ m ≤ 9223372036854775807
set_option maxHeartbeats 1000000 in
theorem some1_any {key m : Int} {Bk Bm : Nat} (hne : Bk ≠ Bm) {W : World} (e : Ent) (h1 : W.heap[Bk]? = some (.cells #[.int .u32 key] 24 (0, 0))) (h2 : W.heap[Bm]? = some (.cells #[.int .i64 m] 3 (0, 0))) (hm1 : -9223372036854775808 ≤ m) (hm2 : m ≤ 9223372036854775807) :
    Calls Try.prog 33 #[ag e, .pointer (some ⟨Bk, 0, none⟩), .pointer (some ⟨Bm, 0, none⟩)] W fun e' W' => e' = .returned (.bool (fsome key m e).1) ∧ W'.heap[Bk]? = some (.cells #[.int .u32 key] 24 (0, 0)) ∧ W'.heap[Bm]? = some (.cells #[.int .i64 (fsome key m e).2] 3 (0, 0)) ∧ Turns (fun b => b = Bm) W W' := by
  have hk := (Array.getElem?_eq_some_iff.1 h1).1
  have hm := (Array.getElem?_eq_some_iff.1 h2).1
  have hb := below1 W (.cells #[.int .i64 e.t, .int .u32 e.k, .int .u64 e.z] 36)
  have g1 := (hb.block Bk hk).trans h1
  have g2 := (hb.block Bm hm).trans h2
  have x1 : W.cell? ⟨Bk, 0, none⟩ = some (.int .u32 key) := cell_row h1 0
  have x2 : W.cell? ⟨Bm, 0, none⟩ = some (.int .i64 m) := cell_row h2 0
  have f2 : W.frozen? ⟨Bm, 0, none⟩ = false := froz_row h2 0
  have hne1 : ¬ Bk = W.heap.size := by omega
  have hne2 : ¬ Bm = W.heap.size := by omega
  have t1 : Turns (fun b => b = Bm) W (W.alloc (.cells #[.int .i64 e.t, .int .u32 e.k, .int .u64 e.z] 36)) := (Turns.refl _ W).alloc _
  have H1 := Lib.hid h1; have H2 := Lib.hid h2; have G1 := Lib.hid g1; have G2 := Lib.hid g2; have T1 := Lib.hid t1; have HNE := Lib.hid hne
  clear h1 h2 hb g1 g2 t1 hne
  unfold fsome
  by_cases hq : e.k = key
  · subst hq
    by_cases h0 : 0 < m
    · rw [if_pos ⟨rfl, h0⟩]
      have hwr : IntKind.i64.wrap (m - 1) = m - 1 := by rw [IntKind.wrap_i64]; omega
      go_enter Try.func33, Try.ntmps33
      go_wp2_with fail
      go_ret
      have t0 := (Turns.refl (fun b => b = Bm) W).setCell ⟨Bm, 0, none⟩ (.int .i64 (m - 1)) rfl
      refine ⟨rfl, ?_, ?_, t0.alloc _⟩
      · exact ((t0.alloc _).block Bk hk HNE.out).trans H1.out
      · exact ((below1 _ _).block Bm (by have := t0.size; omega)).trans (row_set H2.out 0 _)
    · rw [if_neg (fun h => h0 h.2)]
      go_enter Try.func33, Try.ntmps33
      go_wp2_with fail
      go_ret
      exact ⟨rfl, G1.out, G2.out, T1.out⟩
  · rw [if_neg (fun h => hq h.1)]
    go_enter Try.func33, Try.ntmps33
    go_wp2_with fail
    go_ret
    exact ⟨rfl, G1.out, G2.out, T1.out⟩
theorem fsome_le (key m : Int) (e : Ent) (h1 : -9223372036854775808 ≤ m) (h2 : m ≤ 9223372036854775807) : -9223372036854775808 ≤ (fsome key m e).2 ∧ (fsome key m e).2 ≤ 9223372036854775807 := by
  unfold fsome
  split
  · simp; omega
  · exact ⟨h1, h2⟩
theorem some_clo (key : Int) {Bk Bm base n : Nat} (hne : Bk ≠ Bm) (hk : Bk < base) (hm : Bm < base) : Clo 33 #[.pointer (some ⟨Bk, 0, none⟩), .pointer (some ⟨Bm, 0, none⟩)] (fsome key) base n (someI key Bk Bm) where
  call := fun k st F W e _ hI _ => by
    obtain ⟨h1, h2, rfl, h3, h4⟩ := hI
    refine (some1_any hne e h1 h2 h3 h4).mono fun e' W' ⟨he, g1, g2, t⟩ => ⟨he, _, ⟨g1, g2, rfl, (fsome_le _ _ _ h3 h4).1, (fsome_le _ _ _ h3 h4).2⟩, t, fun b hb => .inl hb⟩
  keep := fun k st F W W' S hI t hS => by
    obtain ⟨h1, h2, rfl, h3, h4⟩ := hI
    have l1 := (Array.getElem?_eq_some_iff.1 h1).1
    have l2 := (Array.getElem?_eq_some_iff.1 h2).1
    exact ⟨(t.block Bk l1 (fun h => by have := (hS _ h).1; omega)).trans h1, (t.block Bm l2 (fun h => by have := (hS _ h).1; omega)).trans h2, rfl, h3, h4⟩
  lt := fun k st F W b hI hF => by
    obtain ⟨h1, h2, rfl, h3, h4⟩ := hI
    have l2 := (Array.getElem?_eq_some_iff.1 h2).1
    have hF' : b = Bm := hF
    omega
/-- Two lists are told, in new memory, each with no room behind. -/
def Tells2 (w : World) (T L : List Ent) (e : Ending) (w' : World) : Prop :=
  ∃ A1 A2, e = .returned (.tuple #[.slice A1 T.length T.length, .slice A2 L.length L.length]) ∧ Two w' w.heap.size (.slice A1 T.length T.length) (.slice A2 L.length L.length) T L ∧ Below w.heap.size w w'
theorem Two.base {w : World} {base b : Nat} {s1 s2 : Value} {T L : List Ent} (h : Two w base s1 s2 T L) (hb : b ≤ base) : Two w b s1 s2 T L := ⟨h.r1.base hb, h.r2.base hb, h.ne⟩
set_option maxHeartbeats 1000000 in
theorem some_any {w : World} {b1 : Nat} {A : Option Addr} {D : List Ent} (c : Nat) (key most : Int) (hm1 : -9223372036854775808 ≤ most) (hm2 : most ≤ 9223372036854775807) (hr : Rd w b1 A (flat D)) (hb1 : b1 ≤ w.heap.size) (hlen : D.length ≤ 1000) :
    Calls Try.prog 21 #[.slice A D.length c, .int .u32 key, .int .i64 most] w (Tells2 w (part (fsome key) most D).1 (part (fsome key) most D).2.1) := by
  obtain ⟨w2, hw2⟩ : ∃ w2, w2 = (w.alloc (.cells #[.int .u32 key] 24)).alloc (.cells #[.int .i64 most] 3) := ⟨_, rfl⟩
  have hb : Below w.heap.size w w2 := by rw [hw2]; exact (below1 w _).trans ((below1 _ _).mono (by simp))
  have hs : w2.heap.size = w.heap.size + 2 := by rw [hw2]; simp
  have hk : w2.heap[w.heap.size]? = some (.cells #[.int .u32 key] 24 (0, 0)) := by
    rw [hw2, Below.heap_alloc _ _ _ (by simp)]
    exact heap_alloc_new w _
  have hm : w2.heap[w.heap.size + 1]? = some (.cells #[.int .i64 most] 3 (0, 0)) := by
    have := heap_alloc_new (w.alloc (.cells #[.int .u32 key] 24)) (.cells #[.int .i64 most] 3)
    rw [show (w.alloc (.cells #[.int .u32 key] 24)).heap.size = w.heap.size + 1 by simp] at this
    rw [hw2]; exact this
  have hcon := parted_any c eg33 (some_clo key (Bk := w.heap.size) (Bm := w.heap.size + 1) (base := w2.heap.size) (n := D.length) (by omega) (by omega) (by omega)) most (fun b => b = w.heap.size + 1) ⟨hk, hm, rfl, hm1, hm2⟩ (hr.below hb hb1) (by omega) (fun b hb' e => by omega) hlen
  unfold Parts at hcon
  have HC := Lib.hid hcon; have HB := Lib.hid hb; have HS := Lib.hid hs
  clear hcon hb hs hk hm hr hb1 hlen hm1 hm2
  unfold Tells2
  subst hw2
  go_enter Try.func21, Try.ntmps21
  go_wp2_with fail
  refine HC.out.mono ?_
  rintro e w3 ⟨A1, A2, F, rfl, hph⟩
  have HPH := Lib.hid hph
  clear hph
  go_wp2_with fail
  go_ret2
  exact ⟨A1, A2, rfl, HPH.out.two.base (by rw [HS.out]; omega), HB.out.trans (HPH.out.turn.below (by rw [HS.out]; omega) (fun k hk (e : k = w.heap.size + 1) => by omega))⟩
end Go.Proofs.Ytemdaafnmjenmaa
