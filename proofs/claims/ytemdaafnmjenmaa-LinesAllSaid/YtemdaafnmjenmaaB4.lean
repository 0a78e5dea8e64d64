/- The document's Cut. -/
import Derived.Test.YtemdaafnmjenmaaB3
namespace Go.Proofs.Ytemdaafnmjenmaa
open Go.RowKit

def ec (e : Ent) : Array Value := #[.int .i64 e.t, .int .u32 e.k, .int .u64 e.z]
theorem ec_set (e d : Ent) : (((ec e).setIfInBounds 0 (.int .i64 d.t)).setIfInBounds 1 (.int .u32 d.k)).setIfInBounds 2 (.int .u64 d.z) = ec d := rfl
/-- A variable that holds an entry: a store. -/
theorem ent_store {w : World} {B : Nat} {e d : Ent} {T : TypeId} (h : w.heap[B]? = some (.cells (ec e) T (0, 0))) : (((w.setCell ⟨B, 0, none⟩ (.int .i64 d.t)).setCell ⟨B, 1, none⟩ (.int .u32 d.k)).setCell ⟨B, 2, none⟩ (.int .u64 d.z)).heap[B]? = some (.cells (ec d) T (0, 0)) := by
  have h1 := row_set (row_set (row_set h 0 (.int .i64 d.t)) 1 (.int .u32 d.k)) 2 (.int .u64 d.z)
  rwa [ec_set] at h1
theorem turns3 (w : World) (B : Nat) (d : Ent) : Turns (fun g => g = B) w (((w.setCell ⟨B, 0, none⟩ (.int .i64 d.t)).setCell ⟨B, 1, none⟩ (.int .u32 d.k)).setCell ⟨B, 2, none⟩ (.int .u64 d.z)) := by
  have h0 := (Turns.refl (fun g => g = B) w).setCell ⟨B, 0, none⟩ (.int .i64 d.t) rfl
  have h1 := h0.setCell ⟨B, 1, none⟩ (.int .u32 d.k) rfl
  exact h1.setCell ⟨B, 2, none⟩ (.int .u64 d.z) rfl
set_option maxHeartbeats 1000000 in
theorem rcut_any {w : World} {b1 : Nat} {A : Option Addr} {D : List Ent} (c : Nat) (p : Int) (hr : Rd w b1 A (flat D)) (hb1 : b1 ≤ w.heap.size) (hlen : D.length ≤ 1000) :
    Calls Try.prog 16 #[.slice A D.length c, .int .i64 p] w fun e w' => ∃ s, e = .returned (.tuple #[ag (cutE D p), s, .bool (cutB D p)]) ∧ RowE w' w.heap.size s (cutL D p) ∧ Below w.heap.size w w' := by
  have HR := Lib.hid hr; have HBS := Lib.hid hb1
  clear hr hb1
  obtain ⟨n, hn⟩ : ∃ n, n = D.length := ⟨_, rfl⟩
  have hcB : cutB D p = (decide (0 ≤ p) && decide (p < (n : Int))) := by rw [hn]; rfl
  rw [← hn, hcB]
  have HN := Lib.hid hn
  have hn6 : n ≤ 1000 := by omega
  clear hn hlen hcB
  go_enter Try.func16, Try.ntmps16
  go_wp2_with fail
  go_loopg [7, 9] n (fun q s7 s9 wx => ∃ k : Nat, k ≤ n ∧ q = n - k ∧ s9 = .int .i64 (k : Int) ∧ Below w.heap.size w wx ∧ wx.heap[w.heap.size]? = some (.cells (ec default) 39 (0, 0)) ∧ wx.heap[w.heap.size + 1]? = some (.cells (ec (cutE (D.take k) p)) 39 (0, 0)) ∧ w.heap.size + 2 ≤ wx.heap.size ∧ RowE wx (w.heap.size + 2) s7 (cutL (D.take k) p))
  case atStart =>
    refine ⟨0, by omega, rfl, rfl, ((Below.refl _ w).alloc (Nat.le_refl _) _).alloc (by simp) _, ?_, ?_, by simp, ?_⟩
    · rw [Below.heap_alloc _ _ _ (by simp)]
      exact heap_alloc_new w _
    · have := heap_alloc_new (w.alloc (.cells #[.int .i64 0, .int .u32 0, .int .u64 0] 39)) (.cells #[.int .i64 0, .int .u32 0, .int .u64 0] 39)
      have hd : cutE (D.take 0) p = default := by unfold cutE; rw [if_neg (fun h => by have := h.1; have := h.2; simp at this; omega)]
      rw [hd]
      have h1 : (w.alloc (.cells #[.int .i64 0, .int .u32 0, .int .u64 0] 39)).heap.size = w.heap.size + 1 := by simp
      rw [h1] at this
      exact this
    · have hd : cutL (D.take 0) p = [] := by unfold cutL; simp
      rw [hd]
      exact row_nil _ _ _
  case round =>
    obtain ⟨k, hk, rfl, rfl, hb, hx0, hx1, hsz, hrow⟩ := hrel
    have HB := Lib.hid hb; have HROW := Lib.hid hrow; have HX0 := Lib.hid hx0; have HX1 := Lib.hid hx1
    have x0 : wr.cell? ⟨w.heap.size + 1, 0, none⟩ = some (.int .i64 (cutE (D.take k) p).t) := cell_row hx1 0
    have x1 : wr.cell? ⟨w.heap.size + 1, 1, none⟩ = some (.int .u32 (cutE (D.take k) p).k) := cell_row hx1 1
    have x2 : wr.cell? ⟨w.heap.size + 1, 2, none⟩ = some (.int .u64 (cutE (D.take k) p).z) := cell_row hx1 2
    clear hb hrow hx0 hx1
    by_cases hkn : k < n
    · obtain ⟨lb', lo, rfl, hlb, c0, c1, c2⟩ := (HR.out.below HB.out HBS.out).ent (i := k) (by have := HN.out; omega)
      by_cases hpk : (k : Int) = p
      · subst hpk
        have hh := cut_hit (D := D) (k := k) (by have := HN.out; omega)
        have HH := Lib.hid hh
        clear hh
        have f0 : wr.frozen? ⟨w.heap.size + 1, 0, none⟩ = false := froz_row HX1.out 0
        have f1 : wr.frozen? ⟨w.heap.size + 1, 1, none⟩ = false := froz_row HX1.out 1
        have f2 : wr.frozen? ⟨w.heap.size + 1, 2, none⟩ = false := froz_row HX1.out 2
        generalize cutE (D.take k) (k : Int) = x at *
        generalize D[k]! = d at *
        go_wp2_with fail
        go_roundg (n - (k + 1))
        case measure => omega
        case rel =>
          have t := turns3 wr (w.heap.size + 1) d
          refine ⟨k + 1, by omega, rfl, by go_num, HB.out.trans (t.below HB.out.size (fun g hg e => by omega)), (t.block _ (by omega) (by omega)).trans HX0.out, ?_, Nat.le_trans hsz t.size, ?_⟩
          · rw [HH.out.2]
            exact ent_store HX1.out
          · rw [HH.out.1]
            exact HROW.out.keep t (fun g hg e => by have := (HROW.out.lt g hg).1; omega)
      · have hh := cut_miss (D := D) (k := k) (p := p) (by have := HN.out; omega) (fun e => hpk e.symm)
        have hll := cutL_len (D.take k) p
        rw [List.length_take] at hll
        have hl6 : (cutL (D.take k) p).length ≤ 1000 := by have := Nat.min_le_left k D.length; omega
        have HH := Lib.hid hh
        clear hh hll x0 x1 x2
        generalize D[k]! = d at *
        go_wp2_with (at_builtin; refine wpList_append_row lay39 rfl _ _ rfl rfl (HROW.out.alloc _) (flat_one' _) (by simp; omega) 1 rfl (rd_one wr d 39) rfl (flat_one' _) (by omega) ?_; intro v' w2 hr2 ht2 _; (have HR2 := Lib.hid hr2); (have HT2 := Lib.hid ht2); (clear hr2 ht2))
        go_roundg (n - (k + 1))
        case measure => omega
        case rel =>
          have hb2 : Below (w.heap.size + 2) (wr.alloc (.cells #[.int .i64 d.t, .int .u32 d.k, .int .u64 d.z] 39)) w2 := (HROW.out.alloc _).below_of HT2.out (by simp; omega)
          have hb3 : Below (w.heap.size + 2) wr w2 := ((below1 wr _).mono hsz).trans hb2
          refine ⟨k + 1, by omega, rfl, by go_num, HB.out.trans (hb3.mono (by omega)), (hb3.block _ (by omega)).trans HX0.out, ?_, Nat.le_trans hsz hb3.size, ?_⟩
          · rw [HH.out.2]
            exact (hb3.block _ (by omega)).trans HX1.out
          · rw [HH.out.1]
            show Row w2 _ 3 _ (cutL (D.take k) p ++ [d]).length _
            rw [flat_app, List.length_append]
            exact HR2.out
    · obtain rfl : k = n := by omega
      have hDn : D.take k = D := by rw [HN.out, List.take_length]
      rw [hDn] at HROW HX1 x0 x1 x2
      clear hDn
      have f0 : wr.frozen? ⟨w.heap.size, 0, none⟩ = false := froz_row HX0.out 0
      have f1 : wr.frozen? ⟨w.heap.size, 1, none⟩ = false := froz_row HX0.out 1
      have f2 : wr.frozen? ⟨w.heap.size, 2, none⟩ = false := froz_row HX0.out 2
      have y0 : wr.cell? ⟨w.heap.size, 0, none⟩ = some (.int .i64 (default : Ent).t) := cell_row HX0.out 0
      have y1 : wr.cell? ⟨w.heap.size, 1, none⟩ = some (.int .u32 (default : Ent).k) := cell_row HX0.out 1
      have y2 : wr.cell? ⟨w.heap.size, 2, none⟩ = some (.int .u64 (default : Ent).z) := cell_row HX0.out 2
      obtain ⟨x, hx⟩ : ∃ x, x = cutE D p := ⟨_, rfl⟩
      rw [← hx] at HX1 x0 x1 x2
      have hrw := row_set HX0.out 0 (.int .i64 x.t)
      have s0 : (wr.setCell ⟨w.heap.size, 0, none⟩ (.int .i64 x.t)).cell? ⟨w.heap.size, 0, none⟩ = some (.int .i64 x.t) := cell_row hrw 0
      have hrw2 := row_set hrw 1 (.int .u32 x.k)
      have s1 : ((wr.setCell ⟨w.heap.size, 0, none⟩ (.int .i64 x.t)).setCell ⟨w.heap.size, 1, none⟩ (.int .u32 x.k)).cell? ⟨w.heap.size, 1, none⟩ = some (.int .u32 x.k) := cell_row hrw2 1
      have hrw3 := row_set hrw2 2 (.int .u64 x.z)
      have s2 : (((wr.setCell ⟨w.heap.size, 0, none⟩ (.int .i64 x.t)).setCell ⟨w.heap.size, 1, none⟩ (.int .u32 x.k)).setCell ⟨w.heap.size, 2, none⟩ (.int .u64 x.z)).cell? ⟨w.heap.size, 2, none⟩ = some (.int .u64 x.z) := cell_row hrw3 2
      have S0 := Lib.hid s0; have S1 := Lib.hid s1; have S2 := Lib.hid s2
      clear hrw hrw2 hrw3 s0 s1 s2
      have fin : ∀ b, b = (decide (0 ≤ p) && decide (p < (k : Int))) → ∃ s, Ending.returned (.tuple #[ag x, u7, .bool b]) = .returned (.tuple #[ag (cutE D p), s, .bool (decide (0 ≤ p) && decide (p < (k : Int)))]) ∧ RowE (((wr.setCell ⟨w.heap.size, 0, none⟩ (.int .i64 x.t)).setCell ⟨w.heap.size, 1, none⟩ (.int .u32 x.k)).setCell ⟨w.heap.size, 2, none⟩ (.int .u64 x.z)) w.heap.size s (cutL D p) ∧ Below w.heap.size w (((wr.setCell ⟨w.heap.size, 0, none⟩ (.int .i64 x.t)).setCell ⟨w.heap.size, 1, none⟩ (.int .u32 x.k)).setCell ⟨w.heap.size, 2, none⟩ (.int .u64 x.z)) := fun b hb => by
        have t := turns3 wr w.heap.size x
        subst hb
        exact ⟨u7, by rw [hx], ((HROW.out.keep t (fun g hg e => by have := (HROW.out.lt g hg).1; omega)).base (by omega)), HB.out.trans (t.below HB.out.size (fun g hg e => by omega))⟩
      have FIN := Lib.hid fin
      clear fin hx
      by_cases hp0 : 0 ≤ p
      · go_wp2_with fail
        all_goals exact bodyPost_ret (v := .tuple #[ag x, u7, .bool (decide (p < (k : Int)))]) (by simp [results, Try.results16, go_sem, S0.out, S1.out, S2.out]) rfl (FIN.out (decide (p < (k : Int))) (by simp [hp0]))
      · go_wp2_with fail
        all_goals exact bodyPost_ret (v := .tuple #[ag x, u7, .bool false]) (by simp [results, Try.results16, go_sem, S0.out, S1.out, S2.out]) rfl (FIN.out false (by rw [decide_eq_false (show ¬ 0 ≤ p by omega)]; rfl))
end Go.Proofs.Ytemdaafnmjenmaa
