/- What a Join's parts are; a new Join; what is put behind all that is left; bits for so many threads. -/
import Derived.Test.YtdodloannlfnlaaGreatS17A
import Derived.LoopTactic
import Derived.Deep.LoopGhost
set_option linter.unusedVariables false
set_option linter.unusedSimpArgs false
namespace Go.Proofs.YtdodloannlfnlaaGreat.S17
open Go.Proofs.YtdodloannlfnlaaGreat Go.Proofs.YtdodloannlfnlaaGreat.S11 Go.Proofs.YtdodloannlfnlaaGreat.S12 Go.Proofs.YtdodloannlfnlaaGreat.S13 Go.Proofs.YtdodloannlfnlaaGreat.S14 Go.Proofs.YtdodloannlfnlaaGreat.S15
open Go.RowKit

abbrev countV : Value := .iface 93 (.agg #[])
abbrev lookV : Value := .iface 94 (.agg #[])
abbrev askJ (k : Nat) : Value := .iface 280 (.agg #[.int .u64 (k : Int)])
abbrev replV (b : Int) : Value := .iface 311 (.agg #[.int .i64 b])
abbrev lockV (U : Nat) : Value := .iface 286 (.agg #[.iface 281 (Pw U)])
abbrev freeV (U : Nat) : Value := .iface 286 (.agg #[.iface 312 (Pw U)])
theorem rd_one1 (w : World) (v : Value) (T : TypeId) : Rd (w.alloc (.cells #[v] T)) (w.heap.size + 1) (some ⟨w.heap.size, 0, none⟩) [v] := fun _ =>
  ⟨_, _, rfl, Nat.lt_succ_self _, fun i u hi => by
    cases i with
    | zero =>
      injection hi with hi
      rw [← hi]
      exact cell_row (heap_alloc_new w _) 0
    | succ i => simp at hi⟩
theorem m_count (w : World) : (method 422 93 (.agg #[]) "layby/grows.step").run Tryz.prog w = .ok (155, .agg #[]) w := by kernel_rfl
theorem m_look (w : World) : (method 422 94 (.agg #[]) "layby/grows.step").run Tryz.prog w = .ok (160, .agg #[]) w := by kernel_rfl
theorem m_ask (v : Value) (w : World) : (method 422 280 (.agg #[v]) "layby/grows.step").run Tryz.prog w = .ok (189, .agg #[v]) w := by kernel_rfl
theorem m_repl (v : Value) (w : World) : (method 422 311 (.agg #[v]) "layby/grows.step").run Tryz.prog w = .ok (195, .agg #[v]) w := by kernel_rfl
theorem m_under (v : Value) (w : World) : (method 422 286 (.agg #[v]) "layby/grows.step").run Tryz.prog w = .ok (194, .agg #[v]) w := by kernel_rfl
/-- Bits for so many threads. -/
def thB (n : Nat) : Nat := if n ≤ 1 then 2 else if n ≤ 2 then 3 else if n ≤ 5 then 4 else if n ≤ 10 then 5 else if n ≤ 21 then 6 else if n ≤ 42 then 7 else 8
theorem thB_in (n : Nat) : 2 ≤ thB n ∧ thB n ≤ 8 := by unfold thB; (repeat' split) <;> omega
def qB (i : Nat) : Nat := 2 ^ (i + 2) / 3
theorem thB_no {n : Nat} (hn : n ≤ 64) {i : Nat} (hi : i < 7) (h : ∀ k, k < i → qB k < n) (h2 : n ≤ qB i) : thB n = i + 2 := by
  rcases (show i = 0 ∨ i = 1 ∨ i = 2 ∨ i = 3 ∨ i = 4 ∨ i = 5 ∨ i = 6 by omega) with rfl | rfl | rfl | rfl | rfl | rfl | rfl
  · have e : qB 0 = 1 := by decide
    unfold thB; rw [if_pos (by omega)]
  · have e : qB 1 = 2 := by decide
    have := h 0 (by omega); have e0 : qB 0 = 1 := by decide
    unfold thB; rw [if_neg (by omega), if_pos (by omega)]
  · have e : qB 2 = 5 := by decide
    have := h 1 (by omega); have e0 : qB 1 = 2 := by decide
    unfold thB; rw [if_neg (by omega), if_neg (by omega), if_pos (by omega)]
  · have e : qB 3 = 10 := by decide
    have := h 2 (by omega); have e0 : qB 2 = 5 := by decide
    unfold thB; rw [if_neg (by omega), if_neg (by omega), if_neg (by omega), if_pos (by omega)]
  · have e : qB 4 = 21 := by decide
    have := h 3 (by omega); have e0 : qB 3 = 10 := by decide
    unfold thB; rw [if_neg (by omega), if_neg (by omega), if_neg (by omega), if_neg (by omega), if_pos (by omega)]
  · have e : qB 5 = 42 := by decide
    have := h 4 (by omega); have e0 : qB 4 = 21 := by decide
    unfold thB; rw [if_neg (by omega), if_neg (by omega), if_neg (by omega), if_neg (by omega), if_neg (by omega), if_pos (by omega)]
  · have e : qB 6 = 85 := by decide
    have := h 5 (by omega); have e0 : qB 5 = 42 := by decide
    unfold thB; rw [if_neg (by omega), if_neg (by omega), if_neg (by omega), if_neg (by omega), if_neg (by omega), if_neg (by omega)]
set_option maxRecDepth 100000 in
set_option maxHeartbeats 4000000 in
theorem hbits_any (n : Nat) (hn : n ≤ 64) (w : World) : Calls Tryz.prog 156 #[.int .i64 (n : Int)] w fun e w' => e = .returned (.int .i64 ((thB n : Nat) : Int)) ∧ w = w' := by
  have hs : ∀ (i : Nat) (W : World), i < 7 → Calls Tryz.prog 88 #[.int .i64 ((i + 2 : Nat) : Int)] W fun e w' => e = .returned (.int .i64 ((2 ^ (i + 2) : Nat) : Int)) ∧ W = w' := fun i W hi => by
    have := S10.size_any ((i + 2 : Nat) : Int) W
    rwa [show S10.sizeN ((i + 2 : Nat) : Int) = 2 ^ (i + 2) by unfold S10.sizeN; rw [if_pos (by omega)]; rfl] at this
  have HS := Lib.hid hs; have HN := Lib.hid hn
  clear hs hn
  go_enter Tryz.func156, Tryz.ntmps156
  go_wp2_with fail
  go_loopg [5] 7 (fun q s5 wx => ∃ i : Nat, i < 7 ∧ q = 7 - i ∧ s5 = .int .i64 (i : Int) ∧ wx = w ∧ ∀ k, k < i → qB k < n)
  case atStart => exact ⟨0, by omega, rfl, rfl, rfl, fun k hk => by omega⟩
  case round =>
    obtain ⟨i, hi, rfl, rfl, rfl, hb⟩ := hrel
    have d0 : decide ((i : Int) < 7) = true := by simp; omega
    have w2 : wrap64 (2 + (i : Int)) = 2 + (i : Int) := by unfold wrap64; omega
    obtain ⟨P, hP⟩ : ∃ P, P = 2 ^ (i + 2) := ⟨_, rfl⟩
    have w3 : (P : Int).tdiv 3 = ((qB i : Nat) : Int) := by rw [hP]; rfl
    have w4 : wrap64 ((qB i : Nat) : Int) = ((qB i : Nat) : Int) := by
      have : qB i ≤ 85 := by
        rcases (show i = 0 ∨ i = 1 ∨ i = 2 ∨ i = 3 ∨ i = 4 ∨ i = 5 ∨ i = 6 by omega) with rfl | rfl | rfl | rfl | rfl | rfl | rfl <;> decide
      unfold wrap64; omega
    have hc := HS.out i wr hi
    rw [show ((i + 2 : Nat) : Int) = 2 + (i : Int) by omega, ← hP] at hc
    obtain ⟨q, hq⟩ : ∃ q, q = qB i := ⟨_, rfl⟩
    rw [← hq] at w3 w4
    have HC := Lib.hid hc; have HB := Lib.hid hb; have HI := Lib.hid hi
    have HQ := Lib.hid hq
    clear hc hb hP hq
    by_cases he : n ≤ q
    · have d1 : decide ((n : Int) ≤ (q : Int)) = true := by simp; omega
      have hr := thB_no HN.out hi HB.out (HQ.out ▸ he)
      go_wp2_with (go_at_call 88; refine HC.out.mono ?_; rintro e w' ⟨rfl, rfl⟩)
      go_ret
      exact ⟨by rw [hr]; simp; omega, rfl⟩
    · have d1 : decide ((n : Int) ≤ (q : Int)) = false := by simp; omega
      have hi6 : i < 6 := by
        rcases Nat.lt_or_ge i 6 with h | h
        · exact h
        · have e6 : i = 6 := by omega
          subst e6
          have e : qB 6 = 85 := by decide
          have := HN.out; have := HQ.out; omega
      go_wp2_with (go_at_call 88; refine HC.out.mono ?_; rintro e w' ⟨rfl, rfl⟩)
      go_roundg (7 - (i + 1))
      case measure => have := HI.out; omega
      case rel => exact ⟨i + 1, by omega, rfl, by go_num, rfl, fun k hk => by
        rcases Nat.lt_or_ge k i with h | h
        · exact HB.out k h
        · have e : k = i := by omega
          subst e; rw [← HQ.out]; omega⟩
theorem joined_any (n : Nat) (hn : n < 18446744073709551616) (w : World) : Calls Tryz.prog 157 #[.int .u64 (n : Int)] w fun e w' => e = .returned (.int .i64 ((min n 63 + 1 : Nat) : Int)) ∧ w = w' := by
  have e2 : IntKind.i64.wrap ((min n 63 : Nat) : Int) = ((min n 63 : Nat) : Int) := by rw [IntKind.wrap_i64]; omega
  have e3 : wrap64 (((min n 63 : Nat) : Int) + 1) = ((min n 63 + 1 : Nat) : Int) := by unfold wrap64; omega
  by_cases h : n ≤ 63
  · have em : min n 63 = n := by omega
    rw [em] at e2 e3 ⊢
    have d1 : decide ((63 : Int) < (n : Int)) = false := by simp; omega
    have d2 : decide ((n : Int) < 63) = true ∨ n = 63 := by simp; omega
    go_enter Tryz.func157, Tryz.ntmps157
    go_wp2_with fail
    go_ret
    exact ⟨by first | rfl | (show Ending.returned (Value.int .i64 (min (n : Int) 63 + 1)) = _; rw [show min (n : Int) 63 + 1 = ((n + 1 : Nat) : Int) by omega]) | (show Ending.returned (Value.int .i64 (min (n : Int) 63 + 1)) = _; rw [show min (n : Int) 63 + 1 = ((63 + 1 : Nat) : Int) by omega]), rfl⟩
  · have em : min n 63 = 63 := by omega
    rw [em]
    have d1 : decide ((63 : Int) < (n : Int)) = true := by simp; omega
    have d2 : decide ((n : Int) < 63) = false := by simp; omega
    go_enter Tryz.func157, Tryz.ntmps157
    go_wp2_with fail
    go_ret
    exact ⟨by first | rfl | (show Ending.returned (Value.int .i64 (min (n : Int) 63 + 1)) = _; rw [show min (n : Int) 63 + 1 = ((n + 1 : Nat) : Int) by omega]) | (show Ending.returned (Value.int .i64 (min (n : Int) 63 + 1)) = _; rw [show min (n : Int) 63 + 1 = ((63 + 1 : Nat) : Int) by omega]), rfl⟩
section
variable {w0 w w' : World} {base WB : Nat} {M : Sd} {r : List Part} {j B : Nat} {t b : Int} {s : Value} {L : List Value} {X : Wm}
set_option maxRecDepth 100000 in
set_option maxHeartbeats 4000000 in
/-- A part more, behind all that are left. -/
theorem jadd (h : Jw w0 w base WB M r j B t b s L X) (T : TypeId) (x : Value) (hl : L.length ≤ 1000000) :
    Calls Tryz.prog 164 #[Pw B, .iface T x] w fun e w' => e = .returned (.tuple #[]) ∧ ∃ s', Jw w0 w' base WB M r j B t b s' (L ++ [.iface T x]) X := by
  have hv : (Value.iface T x).oneCell' = true := rfl
  have c2 := h.c2
  have hlt : B < w.heap.size := (Array.getElem?_eq_some_iff.1 h.at.row).1
  have f2 := h.f2
  have h2 := h.new (below1 w (.cells #[.iface T x] 96))
  have H2 := Lib.hid h2; have HR := Lib.hid h2.at.own; have HONE := Lib.hid h.at.one; have HV := Lib.hid hv; have HL := Lib.hid hl
  have hone2 : ∀ u ∈ L ++ [.iface T x], u.oneCell' = true := fun u hu => by
    rcases List.mem_append.1 hu with hu | hu
    · exact HONE.out u hu
    · rw [List.mem_singleton] at hu; rw [hu]; exact hv
  have HONE2 := Lib.hid hone2
  have cc2 := h2.c2
  have ff2 := h2.f2
  clear h h2 hv hl hone2
  go_enter Tryz.func164, Tryz.ntmps164
  go_wp2_with (at_builtin; go_loud (refine wpList_append_row lay69 rfl _ _ rfl rfl HR.out HONE.out (Nat.zero_le _) 1 rfl (rd_one1 w (.iface T x) 96) rfl (fun u hu => by rw [List.mem_singleton] at hu; rw [hu]; exact HV.out) (by have := HL.out; omega) ?_; intro v2 w2 hr2 ht2 ho2; (obtain ⟨A2, cc3, rfl, hc21, hc29⟩ := hr2.shape); (have hj := H2.out.sets ht2 ho2 (L' := L ++ [.iface T x]) (by rw [List.length_append]; exact hr2) HONE2.out); (have HJ := Lib.hid hj); (have c2' : w2.cell? ⟨B, 2, none⟩ = some s := (ht2.cell (g := B) (o := 2) (Nat.lt_trans hlt (by simp)) (fun e => H2.out.at.ne e)).trans cc2); (have f2' : w2.frozen? ⟨B, 2, none⟩ = false := (ht2.frozen (g := B) (o := 2) (Nat.lt_trans hlt (by simp)) (fun e => H2.out.at.ne e)).trans ff2); (clear hr2 ht2 ho2 hj)))
  go_end0
  exact ⟨rfl, _, HJ.out⟩
end
end Go.Proofs.YtdodloannlfnlaaGreat.S17
