/- Put and PutTimer. -/
import Derived.Test.YtcdoklgjicfkmaaT4
namespace Go.Proofs.Ytcdoklgjicfkmaa
open Go.RowKit

section
variable {w : World} {s : Value} {F : Int → Value} {M : Int → List Bk} {b : Int}
theorem put_no (h : Rs w s F M) (hb : InI b) {i : Int} (hi : i < 0 ∨ ((M b).length : Int) ≤ i) (A0 : Option Addr) (m0 c0 : Nat) :
    Calls Try.prog 15 #[s, .agg #[.int .i64 b, .int .i64 i], .slice A0 m0 c0] w fun e w' => e = .returned (.bool false) ∧ Below w.heap.size w w' := by
  obtain ⟨A, c, V, h1, h2, h3, h4, h5⟩ := h.rd b
  have HT := Lib.hid (fun o => at_no (h.sv.below (below1 w o)) hb h1 hi)
  clear h h1 h2 h3 h4 h5
  go_enter Try.func15, Try.ntmps15
  go_wp2_with (go_at_call 42; refine (HT.out _).mono ?_; rintro e w' ⟨rfl, hb1⟩; (have HB1 := Lib.hid hb1); (clear hb1))
  go_ret
  exact ⟨rfl, (below1 w _).trans (HB1.out.mono (by simp))⟩
theorem putT_no (h : Rs w s F M) (hb : InI b) {i : Int} (hi : i < 0 ∨ ((M b).length : Int) ≤ i) (ta tf : Int) :
    Calls Try.prog 16 #[s, .agg #[.int .i64 b, .int .i64 i], .agg #[.int .u64 ta, .int .u64 tf]] w fun e w' => e = .returned (.bool false) ∧ Below w.heap.size w w' := by
  obtain ⟨A, c, V, h1, h2, h3, h4, h5⟩ := h.rd b
  have HT := Lib.hid (fun W hW => at_no (h.sv.below (w' := W) hW) hb h1 hi)
  clear h h1 h2 h3 h4 h5
  have hbb : Below w.heap.size w ((w.alloc (.cells #[.int .i64 b, .int .i64 i] 30)).alloc (.cells #[.int .u64 ta, .int .u64 tf] 33)) := (below1 w _).alloc (by simp) _
  have HBB := Lib.hid hbb
  clear hbb
  go_enter Try.func16, Try.ntmps16
  go_wp2_with (go_at_call 42; refine (HT.out _ HBB.out).mono ?_; rintro e w' ⟨rfl, hb1⟩; (have HB1 := Lib.hid hb1); (clear hb1))
  go_ret
  exact ⟨rfl, HBB.out.trans (HB1.out.mono HBB.out.size)⟩
end
section
variable {w : World} {base : Nat} {own : Nat → Option Role} {s : Value} {n : Nat} {M : Int → List Bk} {b : Int}
theorem put_yes (h : St w base own s n M) (hb : InI b) {i : Nat} (hi : i < (M b).length) {b0 c0 : Nat} {A0 : Option Addr} {D : List Ent} (hr : Rd w b0 A0 (flat D)) (hb0 : b0 ≤ w.heap.size) (hlen : D.length ≤ 1000000) :
    Calls Try.prog 15 #[s, .agg #[.int .i64 b, .int .i64 (i : Int)], .slice A0 D.length c0] w fun e w' => e = .returned (.bool true) ∧ ∃ own', St w' base own' s n (upd M b ((M b).set i { (M b)[i]! with q := D })) ∧ Turns (Mine own) w w' ∧ Fresh own own' w := by
  obtain ⟨sb, mb, F, V, hf⟩ := h
  obtain ⟨g, o, c, hF, hog, hcs⟩ := hf.bk hi
  have HT := Lib.hid (fun o => at_yes (hf.rs.sv.below (below1 w o)) hb hF hi)
  obtain ⟨v2, k2, f2⟩ := hcs 2 (by omega)
  have hgl := (hf.fp g _ hog).2
  have HK := Lib.hid (fun W (hb : Below w.heap.size w W) => (hb.cell (p := ⟨g, o + i * 3 + 2, none⟩) hgl).trans k2)
  have HFZ := Lib.hid (fun W (hb : Below w.heap.size w W) => (hb.frozen (p := ⟨g, o + i * 3 + 2, none⟩) hgl).trans f2)
  have HF := Lib.hid hF; have HST := Lib.hid hf; have HR := Lib.hid hr; have HB0 := Lib.hid hb0; have HI := Lib.hid hi; have HOG := Lib.hid hog
  clear hf hF hcs k2 f2 hr hb0 hi hog
  obtain ⟨m, hm⟩ : ∃ m, m = D.length := ⟨_, rfl⟩
  rw [← hm]
  have HM := Lib.hid hm
  clear hm
  go_enter Try.func15, Try.ntmps15
  go_wp2_with fail
  refine (HT.out _).mono ?_
  rintro e w1 ⟨rfl, hb1⟩
  have HB1 := Lib.hid ((below1 w _).trans (hb1.mono (by simp)))
  clear hb1
  go_wp2_with fail
  rw [HM.out]
  refine (copied_any c0 (HR.out.below HB1.out HB0.out) (Nat.le_trans HB0.out HB1.out.size) hlen).mono ?_
  rintro e w2 ⟨A2, rfl, hr2, hb2⟩
  have HB2 := Lib.hid (HB1.out.trans (hb2.mono HB1.out.size))
  have HR2 := Lib.hid (hr2.base HB1.out.size)
  clear hr2 hb2
  have k2 := HK.out w2 HB2.out
  have f2 := HFZ.out w2 HB2.out
  go_wp2_with fail
  go_ret
  refine ⟨rfl, _, ⟨sb, mb, F, _, HST.out.putQ HI.out HF.out HB2.out HR2.out⟩, ?_, fresh_ownQ _ _ _ (fun g e => (HR2.out.lt g e).1)⟩
  exact (Turns.of_below HB2.out).setCell _ _ ⟨_, HOG.out⟩
theorem putT_yes (h : St w base own s n M) (hb : InI b) {i : Nat} (hi : i < (M b).length) (ta tf : Int) :
    Calls Try.prog 16 #[s, .agg #[.int .i64 b, .int .i64 (i : Int)], .agg #[.int .u64 ta, .int .u64 tf]] w fun e w' => e = .returned (.bool true) ∧ St w' base own s n (upd M b ((M b).set i { (M b)[i]! with a := ta, f := tf })) ∧ Turns (Mine own) w w' := by
  obtain ⟨sb, mb, F, V, hf⟩ := h
  obtain ⟨g, o, c, hF, hog, hcs⟩ := hf.bk hi
  have HT := Lib.hid (fun W hW => at_yes (hf.rs.sv.below (w' := W) hW) hb hF hi)
  obtain ⟨v0, k0, f0⟩ := hcs 0 (by omega)
  obtain ⟨v1, k1, f1⟩ := hcs 1 (by omega)
  rw [Nat.add_zero] at k0 f0
  have hgl := (hf.fp g _ hog).2
  have HK := Lib.hid (fun W (hb : Below w.heap.size w W) => (⟨(hb.cell (p := ⟨g, o + i * 3, none⟩) hgl).trans k0, (hb.cell (p := ⟨g, o + i * 3 + 1, none⟩) hgl).trans k1, (hb.frozen (p := ⟨g, o + i * 3, none⟩) hgl).trans f0, (hb.frozen (p := ⟨g, o + i * 3 + 1, none⟩) hgl).trans f1⟩ : _ ∧ _ ∧ _ ∧ _))
  have HF := Lib.hid hF; have HST := Lib.hid hf; have HI := Lib.hid hi; have HOG := Lib.hid hog; have HGL := Lib.hid hgl
  clear hf hF hcs k0 f0 k1 f1 hi hog
  have hbb : Below w.heap.size w ((w.alloc (.cells #[.int .i64 b, .int .i64 (i : Int)] 30)).alloc (.cells #[.int .u64 ta, .int .u64 tf] 33)) := (below1 w _).alloc (by simp) _
  have HBB := Lib.hid hbb
  clear hbb
  go_enter Try.func16, Try.ntmps16
  go_wp2_with fail
  refine (HT.out _ HBB.out).mono ?_
  rintro e w1 ⟨rfl, hb1⟩
  have hx := pair_facts hb1
  rw [show (w.alloc (.cells #[Value.int .i64 b, .int .i64 (i : Int)] 30)).heap.size = w.heap.size + 1 by simp] at hx
  have HB1 := Lib.hid (HBB.out.trans (hb1.mono HBB.out.size))
  clear hb1
  have x0 : w1.cell? ⟨w.heap.size + 1, 0, none⟩ = some (.int .u64 ta) := cell_row hx 0
  have x1 : w1.cell? ⟨w.heap.size + 1, 1, none⟩ = some (.int .u64 tf) := cell_row hx 1
  clear hx
  have hgX : g ≠ w.heap.size + 1 := by have := HGL.out; omega
  obtain ⟨k0, k1, f0, f1⟩ := HK.out w1 HB1.out
  obtain ⟨X, hX⟩ : ∃ X, X = w.heap.size + 1 := ⟨_, rfl⟩
  rw [← hX] at x0 x1 hgX ⊢
  clear hX
  go_upto_region 4 with (fail)
  go_region
  all_goals
    go_wp2_with fail
    go_ret
    have hS := (HST.out.keep (Turns.of_below (S := fun _ => False) HB1.out) (fun _ _ e => e)).putT HI.out HF.out ta tf
    refine ⟨rfl, ⟨sb, mb, F, V, hS.keep (Turns.refl (fun _ => False) _).drew (fun _ _ e => e)⟩, ?_⟩
    exact (((Turns.of_below HB1.out).setCell _ _ ⟨_, HOG.out⟩).setCell _ _ ⟨_, HOG.out⟩).drew
end
end Go.Proofs.Ytcdoklgjicfkmaa
