/- What is asked of an entry, by a filter. -/
import Derived.Test.YtemdaafnmjenmaaD3
namespace Go.Proofs.Ytemdaafnmjenmaa
open Go.RowKit

theorem eg34 : ∀ args w, (callFunc 34 args).run Try.prog w = .ok (.enter 34 args) w := enters_of Try.func34 (by kernel_rfl) rfl
theorem meth_row (a : Addr) (w : World) : (method 197 54 (.pointer (some a)) "Choose").run Try.prog w = .ok (53, .pointer (some a)) w := by kernel_rfl
theorem meth_all (w : World) : (method 197 67 (.agg #[]) "Choose").run Try.prog w = .ok (54, .agg #[]) w := by kernel_rfl
theorem not_asked {key : Int} {stop : Bool} {Bk Bs : Nat} (pf : Value) {W : World} (e : Ent) (h1 : W.heap[Bk]? = some (.cells #[.int .u32 key] 24 (0, 0))) (h2 : W.heap[Bs]? = some (.cells #[.bool stop] 4 (0, 0))) (hq : e.k ≠ key ∨ stop = true) :
    Calls Try.prog 34 #[ag e, .pointer (some ⟨Bk, 0, none⟩), .pointer (some ⟨Bs, 0, none⟩), pf] W fun e' W' => e' = .returned (.bool false) ∧ Below W.heap.size W W' := by
  have hk := (Array.getElem?_eq_some_iff.1 h1).1
  have hs := (Array.getElem?_eq_some_iff.1 h2).1
  have x1 : W.cell? ⟨Bk, 0, none⟩ = some (.int .u32 key) := cell_row h1 0
  have x2 : W.cell? ⟨Bs, 0, none⟩ = some (.bool stop) := cell_row h2 0
  have hne1 : ¬ Bk = W.heap.size := by omega
  have hne2 : ¬ Bs = W.heap.size := by omega
  clear h1 h2
  by_cases hk : e.k = key
  · obtain rfl : stop = true := hq.resolve_left (fun h => h hk)
    clear hq
    subst hk
    go_enter Try.func34, Try.ntmps34
    go_wp2_with fail
    go_ret
    exact ⟨rfl, below1 W _⟩
  · clear hq
    go_enter Try.func34, Try.ntmps34
    go_wp2_with fail
    go_ret
    exact ⟨rfl, below1 W _⟩
/-- What was answered, and what stands behind it. -/
def stopB (x : Nat) : Bool := decide (x ≠ 0 ∧ x ≠ 1)
set_option maxHeartbeats 2000000 in
/-- A filter is asked: whatever its call leaves. -/
theorem asked_row {Bk Bs Bf B : Nat} {W : World} (e : Ent) (x : Nat) (hx : x < 256) (R : World → Prop) (h1 : W.heap[Bk]? = some (.cells #[.int .u32 e.k] 24 (0, 0))) (h2 : W.heap[Bs]? = some (.cells #[.bool false] 4 (0, 0))) (h3 : W.heap[Bf]? = some (.cells #[.iface 54 (.pointer (some ⟨B, 0, none⟩))] 74 (0, 0)))
    (hcall : Calls Try.prog 53 #[.pointer (some ⟨B, 0, none⟩), .int .u64 e.z] (W.alloc (.cells #[.int .i64 e.t, .int .u32 e.k, .int .u64 e.z] 36)) fun e' W' => e' = .returned (.int .u8 (x : Nat)) ∧ W'.heap[Bs]? = some (.cells #[.bool false] 4 (0, 0)) ∧ R W') :
    Calls Try.prog 34 #[ag e, .pointer (some ⟨Bk, 0, none⟩), .pointer (some ⟨Bs, 0, none⟩), .pointer (some ⟨Bf, 0, none⟩)] W fun e' W' => e' = .returned (.bool (decide (x = 0))) ∧ ∃ W2, W2.heap[Bs]? = some (.cells #[.bool false] 4 (0, 0)) ∧ R W2 ∧ W' = W2.setCell ⟨Bs, 0, none⟩ (.bool (stopB x)) := by
  have hk := (Array.getElem?_eq_some_iff.1 h1).1
  have hs := (Array.getElem?_eq_some_iff.1 h2).1
  have hf := (Array.getElem?_eq_some_iff.1 h3).1
  have x1 : W.cell? ⟨Bk, 0, none⟩ = some (.int .u32 e.k) := cell_row h1 0
  have x2 : W.cell? ⟨Bs, 0, none⟩ = some (.bool false) := cell_row h2 0
  have x3 : W.cell? ⟨Bf, 0, none⟩ = some (.iface 54 (.pointer (some ⟨B, 0, none⟩))) := cell_row h3 0
  have hne1 : ¬ Bk = W.heap.size := by omega
  have hne2 : ¬ Bs = W.heap.size := by omega
  have hne3 : ¬ Bf = W.heap.size := by omega
  have hm := meth_row
  have HC := Lib.hid hcall
  clear h1 h2 h3 hcall
  by_cases h0 : x = 0
  · subst h0
    go_enter Try.func34, Try.ntmps34
    go_wp2_with (go_at_call 53; refine HC.out.mono ?_; rintro e' w2 ⟨rfl, hb2, hR⟩; (have HR := Lib.hid hR); (have HB2 := Lib.hid hb2); (have y2 : w2.cell? ⟨Bs, 0, none⟩ = some (.bool false) := cell_row hb2 0); (have g2 : w2.frozen? ⟨Bs, 0, none⟩ = false := froz_row hb2 0); clear hR hb2)
    go_ret
    exact ⟨rfl, w2, HB2.out, HR.out, rfl⟩
  · by_cases h1 : x = 1
    · subst h1
      go_enter Try.func34, Try.ntmps34
      go_wp2_with (go_at_call 53; refine HC.out.mono ?_; rintro e' w2 ⟨rfl, hb2, hR⟩; (have HR := Lib.hid hR); (have HB2 := Lib.hid hb2); (have y2 : w2.cell? ⟨Bs, 0, none⟩ = some (.bool false) := cell_row hb2 0); (have g2 : w2.frozen? ⟨Bs, 0, none⟩ = false := froz_row hb2 0); clear hR hb2)
      go_ret
      exact ⟨rfl, w2, HB2.out, HR.out, rfl⟩
    · have e0 : ((x : Int) == 0) = false := by rw [beq_eq_false_iff_ne]; omega
      have e1 : ((x : Int) == 1) = false := by rw [beq_eq_false_iff_ne]; omega
      have e2 : ((x : Int) != 0) = true := by rw [bne, e0]; rfl
      have e3 : ((x : Int) != 1) = true := by rw [bne, e1]; rfl
      have hst : stopB x = true := by simp [stopB, h0, h1]
      rw [hst, decide_eq_false h0]
      clear h0 h1 hst
      go_enter Try.func34, Try.ntmps34
      go_wp2_with (go_at_call 53; refine HC.out.mono ?_; rintro e' w2 ⟨rfl, hb2, hR⟩; (have HR := Lib.hid hR); (have HB2 := Lib.hid hb2); (have y2 : w2.cell? ⟨Bs, 0, none⟩ = some (.bool false) := cell_row hb2 0); (have g2 : w2.frozen? ⟨Bs, 0, none⟩ = false := froz_row hb2 0); clear hR hb2)
      go_ret
      exact ⟨rfl, w2, HB2.out, HR.out, rfl⟩
set_option maxHeartbeats 1000000 in
theorem asked_all {Bk Bs Bf : Nat} {W : World} (e : Ent) (h1 : W.heap[Bk]? = some (.cells #[.int .u32 e.k] 24 (0, 0))) (h2 : W.heap[Bs]? = some (.cells #[.bool false] 4 (0, 0))) (h3 : W.heap[Bf]? = some (.cells #[.iface 67 (.agg #[])] 74 (0, 0))) :
    Calls Try.prog 34 #[ag e, .pointer (some ⟨Bk, 0, none⟩), .pointer (some ⟨Bs, 0, none⟩), .pointer (some ⟨Bf, 0, none⟩)] W fun e' W' => e' = .returned (.bool true) ∧ ∃ W2, Below W.heap.size W W2 ∧ W' = W2.setCell ⟨Bs, 0, none⟩ (.bool false) := by
  have hk := (Array.getElem?_eq_some_iff.1 h1).1
  have hs := (Array.getElem?_eq_some_iff.1 h2).1
  have hf := (Array.getElem?_eq_some_iff.1 h3).1
  have x1 : W.cell? ⟨Bk, 0, none⟩ = some (.int .u32 e.k) := cell_row h1 0
  have x2 : W.cell? ⟨Bs, 0, none⟩ = some (.bool false) := cell_row h2 0
  have x3 : W.cell? ⟨Bf, 0, none⟩ = some (.iface 67 (.agg #[])) := cell_row h3 0
  have hne1 : ¬ Bk = W.heap.size := by omega
  have hne2 : ¬ Bs = W.heap.size := by omega
  have hne3 : ¬ Bf = W.heap.size := by omega
  have hm := meth_all
  have hb := below1 W (.cells #[.int .i64 e.t, .int .u32 e.k, .int .u64 e.z] 36)
  have HB := Lib.hid hb; have H2 := Lib.hid h2
  clear h1 h2 h3 hb
  go_enter Try.func34, Try.ntmps34
  go_wp2_with (go_at_call 54; refine (all_choose _ _).mono ?_; rintro e' w2 ⟨rfl, hb2⟩; (have hb3 := HB.out.trans (hb2.mono HB.out.size)); (have hq2 := (hb3.block Bs hs).trans H2.out); (have y2 : w2.cell? ⟨Bs, 0, none⟩ = some (.bool false) := cell_row hq2 0); (have g2 : w2.frozen? ⟨Bs, 0, none⟩ = false := froz_row hq2 0); (have HB3 := Lib.hid hb3); clear hb2 hb3 hq2)
  go_ret
  exact ⟨rfl, w2, HB3.out, rfl⟩
end Go.Proofs.Ytemdaafnmjenmaa
