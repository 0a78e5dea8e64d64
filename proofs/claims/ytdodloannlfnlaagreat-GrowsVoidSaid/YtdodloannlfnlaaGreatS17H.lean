/- A new Join; a Join that runs alone. -/
import Derived.Test.YtdodloannlfnlaaGreatS17G
set_option linter.unusedVariables false
set_option linter.unusedSimpArgs false
namespace Go.Proofs.YtdodloannlfnlaaGreat.S17
open Go.Proofs.YtdodloannlfnlaaGreat Go.Proofs.YtdodloannlfnlaaGreat.S11 Go.Proofs.YtdodloannlfnlaaGreat.S12 Go.Proofs.YtdodloannlfnlaaGreat.S13 Go.Proofs.YtdodloannlfnlaaGreat.S14 Go.Proofs.YtdodloannlfnlaaGreat.S15
open Go.RowKit

theorem alloc_lt {w : World} {ob : Obj} {B : Nat} (h : B < w.heap.size) : (w.alloc ob).heap[B]? = w.heap[B]? := Below.heap_alloc _ _ _ h
theorem alloc_size (w : World) (ob : Obj) : (w.alloc ob).heap.size = w.heap.size + 1 := by simp
def noP : Part where
  ok _ := True
  fp _ := False
  lt _ _ _ e := e.elim
  kept _ _ _ _ _ _ := trivial
section
variable {w0 w w' : World} {base WB : Nat} {M : Sd} {r : List Part} {j B m U : Nat} {t : Nat} {b : Int} {s : Value} {L : List Value} {X : Wm}
set_option maxRecDepth 100000 in
set_option maxHeartbeats 4000000 in
theorem new_join (h : Pg w0 w base WB M r X) (ht : t < 64) :
    Calls Tryz.prog 5 #[.int .i64 (t : Int)] w fun e w' => ∃ B s, e = .returned (Pw B) ∧ Jw w0 w' base WB M (r ++ [noP]) r.length B (t : Int) 0 s [countV, lookV] X := by
  have d0 : decide ((t : Int) < 0) = false := by simp
  have d1 : decide ((64 : Int) ≤ (t : Int)) = false := by simp; omega
  obtain ⟨Q, hQ⟩ : ∃ Q, Q = w.heap.size := ⟨_, rfl⟩
  have hb := (below1 w (.cells #[countV, lookV] 96)).trans ((below1 (w.alloc (.cells #[countV, lookV] 96)) (.cells (jcs (t : Int) 0 (.slice (some ⟨Q, 0, none⟩) 2 2)) 38)).mono (by simp))
  obtain ⟨w2, hw2⟩ : ∃ w2, w2 = (w.alloc (.cells #[countV, lookV] 96)).alloc (.cells (jcs (t : Int) 0 (.slice (some ⟨Q, 0, none⟩) 2 2)) 38) := ⟨_, rfl⟩
  have hr1 : w2.heap[Q]? = some (.cells #[countV, lookV] 96 (0, 0)) := by
    rw [hw2, hQ, alloc_lt (by simp)]; exact heap_alloc_new w _
  have hr2 : w2.heap[Q + 1]? = some (.cells (jcs (t : Int) 0 (.slice (some ⟨Q, 0, none⟩) 2 2)) 38 (0, 0)) := by
    have := heap_alloc_new (w.alloc (.cells #[countV, lookV] 96)) (.cells (jcs (t : Int) 0 (.slice (some ⟨Q, 0, none⟩) 2 2)) 38)
    rw [← hw2, alloc_size, ← hQ] at this
    exact this
  have hsz : w2.heap.size = Q + 2 := by rw [hw2, alloc_size, alloc_size, hQ]
  have hrow : Row w2 0 1 (.slice (some ⟨Q, 0, none⟩) 2 2) 2 [countV, lookV] := by
    refine ⟨_, _, rfl, rfl, Nat.le_refl _, by decide, (fun e => by cases e), fun ad e => ?_⟩
    cases e
    refine ⟨Q, 0, rfl, Nat.zero_le _, by omega, fun i u hi => ?_, fun i hi => ?_⟩
    · rw [Nat.zero_add, cell_row hr1]
      rw [← hi]; rcases i with _ | _ | i <;> rfl
    · rw [Nat.zero_add]
      refine ⟨?_, froz_row hr1 i⟩
      rw [cell_row hr1]
      rcases (show i = 0 ∨ i = 1 by omega) with rfl | rfl <;> rfl
  have hjn : JnAt w2 (Q + 1) (t : Int) 0 (.slice (some ⟨Q, 0, none⟩) 2 2) [countV, lookV] := ⟨hr2, hrow, (fun e => by simp [Value.ownBlock] at e), fun u hu => by
    simp only [List.mem_cons, List.not_mem_nil, or_false] at hu
    rcases hu with rfl | rfl <;> rfl⟩
  rw [← hw2] at hb
  have hp := Pg.push1 h (joinP (Q + 1) (t : Int) 0 (.slice (some ⟨Q, 0, none⟩) 2 2) [countV, lookV]) hb hjn (fun k e => by
    rcases e with e | e
    · omega
    · simp [Value.ownBlock] at e; omega)
  have hj : Jw w0 w2 base WB M (r ++ [noP]) r.length (Q + 1) (t : Int) 0 (.slice (some ⟨Q, 0, none⟩) 2 2) [countV, lookV] X := by
    refine ⟨?_, by simp⟩
    rw [List.set_append_right _ _ (Nat.le_refl _), Nat.sub_self]
    exact hp
  have HJ := Lib.hid hj; have HW2 := Lib.hid hw2; have HQ := Lib.hid hQ
  clear h hj hp hjn hrow hr1 hr2 hb hw2 hsz hQ
  go_enter Tryz.func5, Tryz.ntmps5
  go_wp2_with fail
  go_ret
  refine ⟨Q + 1, .slice (some ⟨Q, 0, none⟩) 2 2, by rw [HQ.out]; rfl, ?_⟩
  have := HJ.out
  rw [HW2.out, HQ.out] at this
  rw [HQ.out]
  exact this
end
theorem m_jstep (a : Addr) (w : World) : (method 422 39 (.pointer (some a)) "Step").run Tryz.prog w = .ok (7, .pointer (some a)) w := by kernel_rfl
set_option maxRecDepth 100000 in
set_option maxHeartbeats 4000000 in
/-- What takes so many steps, alone. -/
theorem run_gen {B WB : Nat} {w : World} (P : Nat → World → Prop) (n most : Nat) (hn0 : 0 < n) (hnm : n ≤ most) (hm : most ≤ 1000) (h0 : P 0 w)
    (hst : ∀ i W, i < n → P i W → Calls Tryz.prog 7 #[Pw B, Pw WB] W fun e w' => e = .returned (.bool (decide (i + 1 = n))) ∧ P (i + 1) w') :
    Calls Tryz.prog 35 #[Pw WB, .iface 39 (Pw B), .int .i64 (most : Int)] w fun e w' => e = .returned (.int .i64 (n : Int)) ∧ P n w' := by
  have hm1 := m_jstep ⟨B, 0, none⟩
  have H := Lib.hid h0; have HST := Lib.hid hst; have HB := Lib.hid (And.intro hn0 (And.intro hnm hm))
  clear h0 hst hn0 hnm hm
  go_enter Tryz.func35, Tryz.ntmps35
  go_wp2_with fail
  go_loopg [7] n (fun q s7 wx => ∃ i : Nat, i < n ∧ q = n - i ∧ s7 = .int .i64 ((i + 1 : Nat) : Int) ∧ P i wx)
  case atStart => exact ⟨0, HB.out.1, rfl, rfl, H.out⟩
  case round =>
    obtain ⟨i, hi, rfl, rfl, hw⟩ := hrel
    have hs := HST.out i _ hi hw
    have hle : ((i + 1 : Nat) : Int) ≤ (most : Int) := by have := HB.out; omega
    have d1 : decide (((i + 1 : Nat) : Int) ≤ (most : Int)) = true := decide_eq_true hle
    have HI := Lib.hid hi
    by_cases he : i + 1 = n
    · rw [decide_eq_true he] at hs
      have HS := Lib.hid hs; have HE := Lib.hid he
      clear hs hw hi he
      go_wp2_with (go_at_call 7; refine HS.out.mono ?_; rintro e w6 ⟨rfl, hs⟩; have HP := Lib.hid hs; clear hs)
      go_ret
      have := HP.out
      rw [HE.out] at this
      exact ⟨by rw [← HE.out]; simp, this⟩
    · rw [decide_eq_false he] at hs
      have HS := Lib.hid hs; have HE := Lib.hid he
      have hm9 : i + 1 ≤ 1000 := by have := HB.out; omega
      clear hs hw hi he
      go_wp2_with (go_at_call 7; refine HS.out.mono ?_; rintro e w6 ⟨rfl, hs⟩; have HP := Lib.hid hs; clear hs)
      go_roundg (n - (i + 1))
      case measure => have := HI.out; omega
      case rel => exact ⟨i + 1, by have := HI.out; have := HE.out; omega, rfl, by go_num, HP.out⟩
end Go.Proofs.YtdodloannlfnlaaGreat.S17
