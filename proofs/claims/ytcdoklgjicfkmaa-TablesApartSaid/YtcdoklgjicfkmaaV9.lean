/- TablesVoid's walk. -/
import Derived.Test.YtcdoklgjicfkmaaV8
namespace Go.Proofs.Ytcdoklgjicfkmaa
open Go.RowKit

/-- What is read of no set, and of one that no call made. -/
def Vd (W : World) (z : Value) : Prop := Rs W z (fun _ => nilS) (fun _ => [])
theorem vd_out (b i : Int) : i < 0 ∨ ((((fun _ => []) : Int → List Bk) b).length : Int) ≤ i := by
  by_cases h : i < 0
  · exact .inl h
  · exact .inr (by simp; omega)
set_option maxHeartbeats 4000000 in
set_option maxRecDepth 20000 in
theorem law_void {W : World} (kd : Int) (pb pi tg now ta tf : Int) (hpb : InI pb) (htg : InI tg) (A : Option Addr) (m c : Nat) :
    Calls Try.prog 4 #[.agg #[.int .u8 kd, .int .i64 pb, .int .i64 pi, .int .i64 tg, .int .u64 now, .slice A m c, .int .u64 ta, .int .u64 tf]] W fun e w' => e = .returned (.bool true) ∧ Below W.heap.size W w' := by
  have QL := Lib.hid lives_any
  have hne := fun W' => neqT33 0 0 0 0 W'
  simp only [and_self, decide_true, Bool.not_true] at hne
  go_enter Try.func4, Try.ntmps4
  go_wp2_with fail
  have h1 := heap_alloc_new W (.cells #[.int .u8 kd, .int .i64 pb, .int .i64 pi, .int .i64 tg, .int .u64 now, .slice A m c, .int .u64 ta, .int .u64 tf] 35)
  have b1 := below1 W (.cells #[.int .u8 kd, .int .i64 pb, .int .i64 pi, .int .i64 tg, .int .u64 now, .slice A m c, .int .u64 ta, .int .u64 tf] 35)
  have s1 : (W.alloc (.cells #[.int .u8 kd, .int .i64 pb, .int .i64 pi, .int .i64 tg, .int .u64 now, .slice A m c, .int .u64 ta, .int .u64 tf] 35)).heap.size = W.heap.size + 1 := by simp
  generalize W.alloc (.cells #[.int .u8 kd, .int .i64 pb, .int .i64 pi, .int .i64 tg, .int .u64 now, .slice A m c, .int .u64 ta, .int .u64 tf] 35) = w1 at *
  have h2 := heap_alloc_new w1 (.cells #[.map none] 46)
  have b2 := below1 w1 (.cells #[.map none] 46)
  have s2 : (w1.alloc (.cells #[.map none] 46)).heap.size = W.heap.size + 2 := by simp [s1]
  rw [s1] at h2
  generalize w1.alloc (.cells #[.map none] 46) = w2 at *
  have h3 := heap_alloc_new w2 (.cells #[.pointer none, .pointer (some ⟨W.heap.size + 1, 0, none⟩)] 25)
  have b3 := below1 w2 (.cells #[.pointer none, .pointer (some ⟨W.heap.size + 1, 0, none⟩)] 25)
  have s3 : (w2.alloc (.cells #[.pointer none, .pointer (some ⟨W.heap.size + 1, 0, none⟩)] 25)).heap.size = W.heap.size + 3 := by simp [s2]
  rw [s2] at h3
  generalize w2.alloc (.cells #[.pointer none, .pointer (some ⟨W.heap.size + 1, 0, none⟩)] 25) = w3 at *
  have k1 := (b3.block W.heap.size (by omega)).trans ((b2.block W.heap.size (by omega)).trans h1)
  have k2 := (b3.block (W.heap.size + 1) (by omega)).trans h2
  have b03 : Below W.heap.size W w3 := (b1.trans (b2.mono (by omega))).trans (b3.mono (by omega))
  have hz : ∀ k, k < 2 → ∃ z, w3.cell? ⟨W.heap.size + 2, k, none⟩ = some z ∧ ∀ W', Below w3.heap.size w3 W' → Vd W' z := fun k hk => by
    have : k = 0 ∨ k = 1 := by omega
    rcases this with rfl | rfl
    · exact ⟨_, cell_row h3 0, fun W' _ => rs_nil W'⟩
    · exact ⟨_, cell_row h3 1, fun W' hW => rs_void ((hW.cell (p := ⟨W.heap.size + 1, 0, none⟩) (by show W.heap.size + 1 < w3.heap.size; omega)).trans (cell_row k2 0))⟩
  have hx : ∀ W', Below w3.heap.size w3 W' → W'.heap[W.heap.size]? = some (.cells #[.int .u8 kd, .int .i64 pb, .int .i64 pi, .int .i64 tg, .int .u64 now, .slice A m c, .int .u64 ta, .int .u64 tf] 35 (0, 0)) := fun W' hW => (hW.block W.heap.size (by omega)).trans k1
  obtain ⟨X1, hX1⟩ : ∃ X, X = W.heap.size := ⟨_, rfl⟩
  obtain ⟨X4, hX4⟩ : ∃ X, X = W.heap.size + 2 := ⟨_, rfl⟩
  have hX4l : X4 < w3.heap.size := by omega
  rw [← hX4] at hz ⊢
  have HB03 := Lib.hid b03
  rw [← hX1] at hx ⊢
  have HZ := Lib.hid hz; have HX := Lib.hid hx
  clear h1 b1 s1 h2 b2 s2 h3 b3 s3 k1 k2 b03 hz hx hX1 hX4
  go_loopg [5] 2 (fun q s5 wx => ∃ k : Nat, k ≤ 2 ∧ q = 2 - k ∧ s5 = .int .i64 (k : Int) ∧ Below w3.heap.size w3 wx)
  case atStart => exact ⟨0, by omega, rfl, rfl, Below.refl _ _⟩
  case round =>
    obtain ⟨k, hk, rfl, rfl, hb⟩ := hrel
    have HB := Lib.hid hb
    clear hb
    by_cases hk2 : k < 2
    · obtain ⟨z, hz, hvd⟩ := HZ.out k hk2
      have hzc := (HB.out.cell (p := ⟨X4, k, none⟩) hX4l).trans hz
      have HVD := Lib.hid hvd
      have cells : ∀ W', Below w3.heap.size w3 W' → W'.cell? ⟨X1, 1, none⟩ = some (.int .i64 pb) ∧ W'.cell? ⟨X1, 2, none⟩ = some (.int .i64 pi) ∧ W'.cell? ⟨X1, 3, none⟩ = some (.int .i64 tg) ∧ W'.cell? ⟨X1, 4, none⟩ = some (.int .u64 now) ∧ W'.cell? ⟨X1, 5, none⟩ = some (.slice A m c) ∧ W'.cell? ⟨X1, 6, none⟩ = some (.int .u64 ta) ∧ W'.cell? ⟨X1, 7, none⟩ = some (.int .u64 tf) := fun W' hW => by
        have h := HX.out W' hW
        exact ⟨cell_row h 1, cell_row h 2, cell_row h 3, cell_row h 4, cell_row h 5, cell_row h 6, cell_row h 7⟩
      have HC := Lib.hid cells
      obtain ⟨x1, x2, x3, x4, x5, x6, x7⟩ := cells wr HB.out
      clear hz hvd cells
      go_wp2_with fail
      refine (put_no (HVD.out _ HB.out) hpb (vd_out pb pi) A m c).mono ?_
      rintro e w4 ⟨rfl, hb4⟩
      have HB4 := Lib.hid (HB.out.trans (hb4.mono HB.out.size))
      clear hb4 x1 x2 x3 x4 x5 x6 x7 hzc
      obtain ⟨x1, x2, x3, x4, x5, x6, x7⟩ := HC.out w4 HB4.out
      go_wp2_with fail
      refine (putT_no (HVD.out _ HB4.out) hpb (vd_out pb pi) ta tf).mono ?_
      rintro e w5 ⟨rfl, hb5⟩
      have HB5 := Lib.hid (HB4.out.trans (hb5.mono HB4.out.size))
      clear hb5 x1 x2 x3 x4 x5 x6 x7
      obtain ⟨x1, x2, x3, x4, x5, x6, x7⟩ := HC.out w5 HB5.out
      go_wp2_with fail
      refine (grow_no (HVD.out _ HB5.out) hpb htg now (.inl rfl)).mono ?_
      rintro e w6 ⟨rfl, rfl⟩
      go_wp2_with fail
      have hh := has_any (HVD.out _ HB5.out).sv hpb (A := none) (m := 0) (c := 0) rfl
      have hd : decide (0 < 0) = false := by decide
      rw [hd] at hh
      refine hh.mono ?_
      clear hh hd
      rintro e w6 ⟨rfl, rfl⟩
      go_wp2_with fail
      refine (queue_no (HVD.out _ HB5.out) hpb (vd_out pb pi)).mono ?_
      rintro e w6 ⟨rfl, hb6⟩
      have HB6 := Lib.hid (HB5.out.trans (hb6.mono HB5.out.size))
      clear hb6 x1 x2 x3 x4 x5 x6 x7
      obtain ⟨x1, x2, x3, x4, x5, x6, x7⟩ := HC.out w6 HB6.out
      go_wp2_with fail
      refine (timer_no (HVD.out _ HB6.out) hpb (vd_out pb pi)).mono ?_
      rintro e w7 ⟨rfl, hb7⟩
      have HB7 := Lib.hid (HB6.out.trans (hb7.mono HB6.out.size))
      clear hb7 x1 x2 x3 x4 x5 x6 x7
      obtain ⟨x1, x2, x3, x4, x5, x6, x7⟩ := HC.out w7 HB7.out
      go_wp2_with fail
      have hpl := places_any (HVD.out _ HB7.out) tg (by simp) (by simp)
      rw [show plM (fun _ => ([] : List Bk)) tg 7 = [] from rfl] at hpl
      refine hpl.mono ?_
      clear hpl
      rintro e w8 ⟨A8, rfl, -, hb8⟩
      have HB8 := Lib.hid (HB7.out.trans (hb8.mono HB7.out.size))
      clear hb8 x1 x2 x3 x4 x5 x6 x7
      go_wp2_with fail
      go_roundg (2 - (k + 1))
      case measure => omega
      case rel => exact ⟨k + 1, by omega, rfl, by go_num, HB8.out⟩
    · obtain rfl : k = 2 := by omega
      go_wp2_with fail
      refine (QL.out _).mono ?_
      rintro e w4 ⟨rfl, hb4⟩
      have HB4 := Lib.hid (HB.out.trans (hb4.mono HB.out.size))
      clear hb4
      go_wp2_with fail
      go_ret
      exact ⟨rfl, HB03.out.trans (HB4.out.mono HB03.out.size)⟩
end Go.Proofs.Ytcdoklgjicfkmaa
