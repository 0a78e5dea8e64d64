/- A new clock; clocks of a call's own, from a base on; the chapter's examples. -/
import Derived.Test.YtmnndheddlkbgaaA5
namespace Go.Proofs.Ytmnndheddlkbgaa
open Go.RowKit

def Made (w : World) (T most : Nat) (D : List Nat) (e : Ending) (w' : World) : Prop := ∃ B s, e = .returned (Pt B) ∧ w.heap.size ≤ B ∧ ClockAt w' w.heap.size B T most s D ∧ Below w.heap.size w w'
theorem made_new {w w1 : World} {s : Value} {most : Nat} {D : List Nat} (hN : Nums 0 most D) (hr : Row w1 w.heap.size s D) (hb : Below w.heap.size w w1) : Made w 0 most D (.returned (Pt w1.heap.size)) (w1.alloc (.cells #[.int .u64 0, .int .u64 most, s] 43)) := by
  refine ⟨w1.heap.size, s, rfl, hb.size, ⟨hN, heap_alloc_new w1 _, hr.keep ((Turns.refl (fun _ => False) w1).alloc _) (fun _ _ e => e), fun e => ?_⟩, hb.alloc hb.size _⟩
  have := (hr.lt _ e).2
  omega
theorem new_any {w : World} {b2 : Nat} {A : Option Addr} {D : List Nat} (c most : Nat) (hn : D.length ≤ c) (hc : c ≤ 9223372036854775807) (hm : most ≤ 18446744073709551615) (hr : Rd w b2 A D) (hb2 : b2 ≤ w.heap.size) (hD : ∀ d ∈ D, d ≤ 18446744073709551615) :
    Calls Try.prog 8 #[.slice A D.length c, .int .u64 most] w (Made w 0 most (D.take 65536)) := by
  have hfi := fun W => first_any A D.length c 65536 hn hc (by omega) W
  have hcp := copied_any A c b2 (D.take 65536) (by rw [List.length_take]; omega) w (hr.take 65536) hb2
  have hmin : min D.length 65536 = (D.take 65536).length := by rw [List.length_take, Nat.min_comm]
  have hN : Nums 0 most (D.take 65536) := ⟨by omega, hm, by rw [List.length_take]; omega, fun d hd => hD d (List.mem_of_mem_take hd)⟩
  generalize D.take 65536 = E at *
  rw [hmin] at hfi
  have HFI := Lib.hid hfi; have HCP := Lib.hid hcp; have HN := Lib.hid hN
  clear hfi hcp hmin hN hr hD
  go_enter Try.func8, Try.ntmps8
  go_wp2_with (first
    | (go_at_call 22; refine (HFI.out _).mono ?_; rintro e w1 ⟨rfl, rfl⟩)
    | (go_at_call 21; refine HCP.out.mono ?_; rintro e w1 ⟨s, rfl, hr1, hb1⟩; obtain ⟨A1, cap1, hs1⟩ := hr1.shape; subst hs1))
  go_ret
  exact made_new HN.out hr1 hb1
/-- A clock whose blocks all lie from base on. -/
structure Own (w : World) (base B T most : Nat) (D : List Nat) : Prop where
  size : base ≤ w.heap.size
  from_ : base ≤ B
  own : ∃ s, ClockAt w base B T most s D
section
variable {w w' : World} {base B T most : Nat} {D : List Nat}
theorem Own.nums (h : Own w base B T most D) : Nums T most D := let ⟨_, c⟩ := h.own; c.nums
theorem Own.lt (h : Own w base B T most D) : B < w.heap.size := let ⟨_, c⟩ := h.own; c.lt
theorem Own.new (h : Own w base B T most D) (b : Below w.heap.size w w') : Own w' base B T most D :=
  let ⟨s, c⟩ := h.own; ⟨Nat.le_trans h.size b.size, h.from_, s, c.new b⟩
theorem Own.drewN (h : Own w base B T most D) (k : Nat) : Own (w.drewN k) base B T most D := h.new ⟨rfl, rfl, rfl, Nat.le_refl _, fun _ _ => rfl⟩
theorem Leaves.own {s : Value} {T' : Nat} {D' : List Nat} (h : Own w base B T most D) (c : ClockAt w base B T most s D) (l : Leaves w w' base B T' most s D') : Own w' base B T' most D' ∧ Below base w w' := by
  obtain ⟨s', c', _, t⟩ := l
  refine ⟨⟨Nat.le_trans h.size t.size, h.from_, s', c'⟩, t.below h.size (fun k hk e => ?_)⟩
  have := h.from_
  rcases e with rfl | e
  · omega
  · have := (c.own.lt k e).1; omega
theorem Made.own {w : World} {T most : Nat} {D : List Nat} {e : Ending} {w' : World} (h : Made w T most D e w') : ∃ B, e = .returned (Pt B) ∧ w.heap.size ≤ B ∧ Own w' w.heap.size B T most D ∧ Below w.heap.size w w' :=
  let ⟨B, s, he, hB, c, b⟩ := h; ⟨B, he, hB, ⟨b.size, hB, s, c⟩, b⟩
theorem own_now (h : Own w base B T most D) : Calls Try.prog 17 #[Pt B] w fun e w' => e = .returned (.int .u64 T) ∧ w = w' := let ⟨_, c⟩ := h.own; now_any c
theorem own_left (h : Own w base B T most D) : Calls Try.prog 20 #[Pt B] w fun e w' => e = .returned (.int .i64 (D.length : Nat)) ∧ w = w' := let ⟨_, c⟩ := h.own; left_any c
theorem own_after (h : Own w base B T most D) (n : Nat) (hn : n ≤ 18446744073709551615) : Calls Try.prog 18 #[Pt B, .int .u64 n] w fun e w' => e = .returned (.agg #[.bool true, .int .u64 (sat T n : Nat)]) ∧ Below w.heap.size w w' := let ⟨_, c⟩ := h.own; after_any c n hn
theorem own_come (h : Own w base B T most D) (on : Bool) (at_ : Nat) : Calls Try.prog 19 #[Pt B, .agg #[.bool on, .int .u64 at_]] w fun e w' => e = .returned (.bool (comeB T on at_)) ∧ Below w.heap.size w w' := let ⟨_, c⟩ := h.own; come_any c on at_
theorem own_tick (h : Own w base B T most D) (n : Nat) (hn : n ≤ 18446744073709551615) : Calls Try.prog 10 #[Pt B, .int .u64 n] w fun e w' => e = .returned (.tuple #[]) ∧ Own w' base B (sat T n) most D ∧ Below base w w' := by
  obtain ⟨s, c⟩ := h.own
  refine (tick_any c n hn).mono fun e w' ⟨he, c', t⟩ => ⟨he, Leaves.own h c ⟨s, c', .inl rfl, t.mono (fun _ _ e => .inl e)⟩⟩
theorem own_tick2 (h : Own w base B T most D) (n : Nat) (hn : n ≤ 18446744073709551615) : Calls Try.prog 10 #[Pt B, .int .u64 n] w fun e w' => e = .returned (.tuple #[]) ∧ Own w' base B (sat T n) most D ∧ Below base w w' ∧ Turns (fun k => k = B) w w' := by
  obtain ⟨s, c⟩ := h.own
  refine (tick_any c n hn).mono fun e w' ⟨he, c', t⟩ => ⟨he, ?_⟩
  obtain ⟨h1, h2⟩ := Leaves.own h c ⟨s, c', .inl rfl, t.mono (fun _ _ e => .inl e)⟩
  exact ⟨h1, h2, t⟩
theorem own_draw_none (h : Own w base B T most []) : Calls Try.prog 12 #[Pt B] w fun e w' => e = .returned (.int .u64 0) ∧ w = w' := let ⟨_, c⟩ := h.own; draw_none c
theorem own_draw {d : Nat} (h : Own w base B T most (d :: D)) : Calls Try.prog 12 #[Pt B] w fun e w' => e = .returned (.int .u64 (brt d most : Nat)) ∧ Own w' base B T most D ∧ Below base w w' := by
  obtain ⟨s, c⟩ := h.own
  refine (draw_some c).mono fun e w' ⟨he, s', c', e', t⟩ => ⟨he, Leaves.own h c ⟨s', c', .inl e', t.mono (fun _ _ e => .inl e)⟩⟩
theorem own_more (h : Own w base B T most D) {b2 : Nat} {A : Option Addr} {E : List Nat} (c : Nat) (hn : E.length ≤ c) (hc : c ≤ 9223372036854775807) (hr : Rd w b2 A E) (hE : ∀ d ∈ E, d ≤ 18446744073709551615) :
    Calls Try.prog 14 #[Pt B, .slice A E.length c] w fun e w' => e = .returned (.tuple #[]) ∧ Own w' base B T most (D ++ E.take (65536 - D.length)) ∧ Below base w w' := by
  obtain ⟨s, k⟩ := h.own
  exact (more_any k h.size c hn hc hr hE).mono fun e w' ⟨he, l⟩ => ⟨he, Leaves.own h k l⟩
end
theorem eq31 (a b : Bool) (x y : Int) (w : World) : (binOp .eql 31 (.agg #[.bool a, .int .u64 x]) (.agg #[.bool b, .int .u64 y])).run Try.prog w = .ok (.bool ((a == b) && (x == y))) w := by
  simp [go_sem, Try.underlying31]
  by_cases h1 : a = b <;> by_cases h2 : x = y <;> simp [h1, h2]
theorem neq31 (a b : Bool) (x y : Int) (w : World) : (binOp .neq 31 (.agg #[.bool a, .int .u64 x]) (.agg #[.bool b, .int .u64 y])).run Try.prog w = .ok (.bool (!((a == b) && (x == y)))) w := by
  simp [go_sem, Try.underlying31]
  by_cases h1 : a = b <;> by_cases h2 : x = y <;> simp [h1, h2]
end Go.Proofs.Ytmnndheddlkbgaa
