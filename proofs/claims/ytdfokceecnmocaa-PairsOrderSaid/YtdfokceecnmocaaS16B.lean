/- What makes a Pair's tasks; the tasks of a lock and of a Free. -/
import Derived.Test.YtdfokceecnmocaaS16A
set_option linter.unusedVariables false
set_option linter.unusedSimpArgs false
namespace Go.Proofs.Ytdfokceecnmocaa.S16
open Go.Proofs.Ytdfokceecnmocaa Go.Proofs.Ytdfokceecnmocaa.S11 Go.Proofs.Ytdfokceecnmocaa.S12 Go.Proofs.Ytdfokceecnmocaa.S13 Go.Proofs.Ytdfokceecnmocaa.S14 Go.Proofs.Ytdfokceecnmocaa.S15
open Go.RowKit

abbrev takeF (V : Nat) : Value := .func (.func 60) #[] #[Pw V]
abbrev leaveF (V : Nat) : Value := .func (.func 52) #[] #[Pw V]
abbrev lookF (XB TB : Nat) : Value := .func (.func 47) #[] #[Pw XB, Pw TB]
abbrev askF (KB OB XB TB : Nat) : Value := .func (.func 62) #[] #[Pw KB, Pw OB, Pw XB, Pw TB]
section
variable {w0 w w' : World} {base WB : Nat} {M : Sd} {r : List Part} {j u U : Nat} {l l' : Rows} {X : Wm}
set_option maxRecDepth 100000 in
set_option maxHeartbeats 4000000 in
theorem look_new (B : Nat) (t : Int) (w : World) : Calls Try.prog 32 #[Pw B, .int .i64 t] w fun e w' => e = .returned (lookF w.heap.size (w.heap.size + 1)) ∧ w' = (w.alloc (.cells #[Pw B] 56)).alloc (.cells #[.int .i64 t] 3) := by
  go_enter Try.func32, Try.ntmps32
  go_wp2_with fail
  go_ret
  exact ⟨by simp, rfl⟩
set_option maxRecDepth 100000 in
set_option maxHeartbeats 4000000 in
theorem take_new (h : Wq w0 w base WB M r j l X) (hju : j ≠ u) (hu : u < r.length) {t key tw : Nat} (ht : t < 64) {pb pi : Int} (hpb : pb = (bitsN tw : Int)) (hpi : pi = (bktN key tw : Int)) :
    Calls Try.prog 50 #[.int .i64 (t : Int), .agg #[.int .i64 pb, .int .i64 pi]] w fun e w' => ∃ V U, e = .returned (takeF V) ∧ w.heap.size ≤ V ∧ Wq w0 w' base WB M (r.set u (lockP U (lk1 t (lokN key tw)))) j (l ++ [(V, .cells #[Pw U] 172 (0, 0))]) X := by
  have h1 := h.new (below1 w (.cells #[.int .i64 pb, .int .i64 pi] 39))
  obtain ⟨a, ha⟩ : ∃ a, a = lokN key tw := ⟨_, rfl⟩
  have hlk : ∀ W, Calls Try.prog 12 #[.agg #[.int .i64 pb, .int .i64 pi]] W fun e w' => e = .returned (.int .u32 (a : Int)) ∧ Below W.heap.size W w' := fun W => by
    have := lockOf_any pb pi W
    rwa [hpb, hpi, lok_lock, ← ha, ← hpb, ← hpi] at this
  have hnl : ∀ W, Calls Try.prog 59 #[.int .i64 (t : Int), .int .u32 (a : Int)] W fun e w' => e = .returned (Pw W.heap.size) ∧ w' = W.alloc (.cells (lk1 t a).cs 187) := fun W => by
    have := new_lock (t : Int) a W
    rwa [show newK (t : Int) a = lk1 t a by unfold newK; rw [if_pos ⟨by omega, by omega⟩]; rfl] at this
  rw [← ha]
  have HLK := Lib.hid hlk; have HNL := Lib.hid hnl; have H1 := Lib.hid h1; have HJU := Lib.hid hju; have HU := Lib.hid hu
  have hsz : w.heap.size ≤ (w.alloc (.cells #[.int .i64 pb, .int .i64 pi] 39)).heap.size := by rw [alloc_size]; omega
  have HSZ := Lib.hid hsz
  clear h h1 hju hu ht ha hlk hnl hpb hpi hsz
  have c0 : (w.alloc (.cells #[.int .i64 pb, .int .i64 pi] 39)).cell? ⟨w.heap.size, 0, none⟩ = some (.int .i64 pb) := cell_row (heap_alloc_new w _) 0
  have c1 : (w.alloc (.cells #[.int .i64 pb, .int .i64 pi] 39)).cell? ⟨w.heap.size, 1, none⟩ = some (.int .i64 pi) := cell_row (heap_alloc_new w _) 1
  obtain ⟨Q, hQ⟩ : ∃ Q, Q = w.heap.size := ⟨_, rfl⟩
  rw [← hQ] at c0 c1
  have HQ := Lib.hid hQ
  clear hQ
  go_enter Try.func50, Try.ntmps50
  go_upto_region 1 with (fail)
  rw [← HQ.out]
  generalize w.alloc (.cells #[.int .i64 pb, .int .i64 pi] 39) = w1 at *
  go_upto_region 2 with (first
    | (go_at_call 12; refine (HLK.out _).mono ?_; rintro e w2 ⟨rfl, hb2⟩; have H2 := Lib.hid (H1.out.new hb2); have HS2 := Lib.hid (Nat.le_trans HSZ.out hb2.size); clear hb2)
    | (go_at_call 59; refine (HNL.out _).mono ?_; rintro e w3 ⟨rfl, rfl⟩))
  have h3 := H2.out.newU HJU.out HU.out (.cells (lk1 t a).cs 187)
  have h4 := h3.push (.cells #[Pw w2.heap.size] 172)
  rw [alloc_size] at h4
  go_wp2_with fail
  go_ret
  refine ⟨_, w2.heap.size, rfl, ?_, h4⟩
  have := HS2.out; omega
set_option maxRecDepth 100000 in
set_option maxHeartbeats 4000000 in
theorem leave_new (h : Wq w0 w base WB M r j l X) (hju : j ≠ u) (hu : u < r.length) {a : Nat} {pb pi : Int} (hz : S10.lockZ pb pi = (a : Int)) :
    Calls Try.prog 34 #[.agg #[.int .i64 pb, .int .i64 pi]] w fun e w' => ∃ V U, e = .returned (leaveF V) ∧ w.heap.size ≤ V ∧ Wq w0 w' base WB M (r.set u (freeP U (fr0 a))) j (l ++ [(V, .cells #[Pw U] 47 (0, 0))]) X := by
  have h1 := h.new (below1 w (.cells #[.int .i64 pb, .int .i64 pi] 39))
  have hlk : ∀ W, Calls Try.prog 12 #[.agg #[.int .i64 pb, .int .i64 pi]] W fun e w' => e = .returned (.int .u32 (a : Int)) ∧ Below W.heap.size W w' := fun W => by
    have := lockOf_any pb pi W
    rwa [hz] at this
  have HLK := Lib.hid hlk; have HNL := Lib.hid (fun W => new_free a W); have H1 := Lib.hid h1; have HJU := Lib.hid hju; have HU := Lib.hid hu
  have hsz : w.heap.size ≤ (w.alloc (.cells #[.int .i64 pb, .int .i64 pi] 39)).heap.size := by rw [alloc_size]; omega
  have HSZ := Lib.hid hsz
  clear h h1 hju hu hz hlk hsz
  have c0 : (w.alloc (.cells #[.int .i64 pb, .int .i64 pi] 39)).cell? ⟨w.heap.size, 0, none⟩ = some (.int .i64 pb) := cell_row (heap_alloc_new w _) 0
  have c1 : (w.alloc (.cells #[.int .i64 pb, .int .i64 pi] 39)).cell? ⟨w.heap.size, 1, none⟩ = some (.int .i64 pi) := cell_row (heap_alloc_new w _) 1
  obtain ⟨Q, hQ⟩ : ∃ Q, Q = w.heap.size := ⟨_, rfl⟩
  rw [← hQ] at c0 c1
  have HQ := Lib.hid hQ
  clear hQ
  go_enter Try.func34, Try.ntmps34
  go_upto_region 1 with (fail)
  rw [← HQ.out]
  generalize w.alloc (.cells #[.int .i64 pb, .int .i64 pi] 39) = w1 at *
  go_upto_region 2 with (first
    | (go_at_call 12; refine (HLK.out _).mono ?_; rintro e w2 ⟨rfl, hb2⟩; have H2 := Lib.hid (H1.out.new hb2); have HS2 := Lib.hid (Nat.le_trans HSZ.out hb2.size); clear hb2)
    | (go_at_call 13; refine (HNL.out _).mono ?_; rintro e w3 ⟨rfl, rfl⟩))
  have h3 := H2.out.newU HJU.out HU.out (.cells (fr0 a).cs 113)
  have h4 := h3.push (.cells #[Pw w2.heap.size] 47)
  rw [alloc_size] at h4
  go_wp2_with fail
  go_ret
  refine ⟨_, w2.heap.size, rfl, ?_, h4⟩
  have := HS2.out; omega
/-- What stands in the boxes of an ask. -/
def askL (n B t tw : Nat) (b1 i1 b2 i2 : Int) : Rows := [(n, .cells #[Pw B] 56 (0, 0)), (n + 1, .cells #[.int .i64 (t : Int)] 3 (0, 0)), (n + 2, .cells #[.int .u64 (tw : Int)] 25 (0, 0)), (n + 3, .cells #[.int .i64 b1, .int .i64 i1, .int .i64 b2, .int .i64 i2] 116 (0, 0))]
set_option maxRecDepth 100000 in
set_option maxHeartbeats 4000000 in
theorem ask_new (h : Wq w0 w base WB M r j l X) (B t tw : Nat) (b1 i1 b2 i2 : Int) :
    Calls Try.prog 51 #[Pw B, .int .i64 (t : Int), .int .u64 (tw : Int), .agg #[.int .i64 b1, .int .i64 i1, .int .i64 b2, .int .i64 i2]] w fun e w' => e = .returned (askF (w.heap.size + 2) (w.heap.size + 3) w.heap.size (w.heap.size + 1)) ∧ Wq w0 w' base WB M r j (l ++ askL w.heap.size B t tw b1 i1 b2 i2) X := by
  obtain ⟨n, hn⟩ : ∃ n, n = w.heap.size := ⟨_, rfl⟩
  have h1 := h.push (.cells #[Pw B] 56)
  have h2 := h1.push (.cells #[.int .i64 (t : Int)] 3)
  have h3 := h2.push (.cells #[.int .u64 (tw : Int)] 25)
  have h4 := h3.push (.cells #[.int .i64 b1, .int .i64 i1, .int .i64 b2, .int .i64 i2] 116)
  simp only [alloc_size, List.append_assoc, List.cons_append, List.nil_append] at h4
  have H4 := Lib.hid h4
  clear h h1 h2 h3 h4 hn
  go_enter Try.func51, Try.ntmps51
  go_wp2_with fail
  go_ret
  exact ⟨by simp, H4.out⟩
set_option maxRecDepth 100000 in
set_option maxHeartbeats 4000000 in
/-- A step of the lock that a task holds. -/
theorem take_step {K : Lk} (h : Wq w0 w base WB M r j l X) (hju : j ≠ u) (hu : r[u]? = some (lockP U K)) (k : Nat) {V : Nat} (hv : l[k]? = some (V, .cells #[Pw U] 172 (0, 0))) (ok : LkOk M K) (h6 : K.ln ≤ 6) :
    Calls Try.prog 60 #[Pw WB, Pw V] w fun e w' => e = .returned (.bool (decide ((stepK M K).ln = 0))) ∧ ∃ X', Wq w0 w' base WB (stepM M K) (r.set u (lockP U (stepK M K))) j l X' := by
  have hj := h.hj
  have c0 : w.cell? ⟨V, 0, none⟩ = some (Pw U) := cell_row (h.blk k hv) 0
  have HST := Lib.hid (step_any (h.lock hju hu) ok h6)
  have HJ := Lib.hid hj; have HJU := Lib.hid hju
  clear h hu hv ok h6 hj hju
  generalize decide ((stepK M K).ln = 0) = b at *
  go_enter Try.func60, Try.ntmps60
  go_wp2_with (go_at_call 61; refine HST.out.mono ?_; rintro e w2 ⟨rfl, hs⟩; have HS := Lib.hid hs; clear hs)
  go_ret
  obtain ⟨X', h'⟩ := HS.out
  exact ⟨rfl, X', wq_lock h' HJU.out HJ.out⟩
set_option maxRecDepth 100000 in
set_option maxHeartbeats 4000000 in
/-- A step of the Free that a task holds. -/
theorem leave_step {K : Fr} (h : Wq w0 w base WB M r j l X) (hju : j ≠ u) (hu : r[u]? = some (freeP U K)) (k : Nat) {V : Nat} (hv : l[k]? = some (V, .cells #[Pw U] 47 (0, 0))) (ok : FrOk M K) (h7 : K.ln ≤ 7) :
    Calls Try.prog 52 #[Pw WB, Pw V] w fun e w' => e = .returned (.bool (decide ((fstepK M K).ln = 0))) ∧ ∃ X', Wq w0 w' base WB (fstepM M K) (r.set u (freeP U (fstepK M K))) j l X' := by
  have hj := h.hj
  have c0 : w.cell? ⟨V, 0, none⟩ = some (Pw U) := cell_row (h.blk k hv) 0
  have HST := Lib.hid (step_f (h.free hju hu) ok h7)
  have HJ := Lib.hid hj; have HJU := Lib.hid hju
  clear h hu hv ok h7 hj hju
  generalize decide ((fstepK M K).ln = 0) = b at *
  go_enter Try.func52, Try.ntmps52
  go_wp2_with (go_at_call 53; refine HST.out.mono ?_; rintro e w2 ⟨rfl, hs⟩; have HS := Lib.hid hs; clear hs)
  go_ret
  obtain ⟨X', h'⟩ := HS.out
  exact ⟨rfl, X', wq_free h' HJU.out HJ.out⟩
end
end Go.Proofs.Ytdfokceecnmocaa.S16
