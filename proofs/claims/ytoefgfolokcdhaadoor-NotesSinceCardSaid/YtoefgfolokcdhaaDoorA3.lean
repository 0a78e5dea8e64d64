/- Names of kinds: the program's table, the document's. -/
import Derived.Test.YtoefgfolokcdhaaDoorA2
namespace Go.Proofs.YtoefgfolokcdhaaDoor
open Go.RowKit

/-- Names, by their numbers. -/
def nmL : List ByteArray := [⟨#[]⟩, ⟨#[112, 97, 114, 107]⟩, ⟨#[116, 97, 107, 101]⟩, ⟨#[112, 105, 99, 107]⟩, ⟨#[109, 111, 118, 101]⟩, ⟨#[103, 111, 110, 101]⟩, ⟨#[]⟩, ⟨#[]⟩, ⟨#[]⟩, ⟨#[]⟩, ⟨#[]⟩, ⟨#[]⟩, ⟨#[]⟩, ⟨#[]⟩, ⟨#[]⟩, ⟨#[]⟩, ⟨#[108, 111, 99, 107]⟩, ⟨#[102, 114, 101, 101]⟩, ⟨#[104, 97, 110, 100]⟩, ⟨#[98, 117, 115, 121]⟩, ⟨#[108, 97, 116, 101]⟩, ⟨#[114, 101, 97, 100]⟩, ⟨#[117, 112, 103, 114]⟩, ⟨#[99, 108, 97, 105, 109]⟩, ⟨#[119, 114, 105, 116, 101]⟩, ⟨#[117, 110, 114, 101, 97, 100]⟩, ⟨#[117, 110, 117, 112, 103, 114]⟩, ⟨#[117, 110, 99, 108, 97, 105, 109]⟩, ⟨#[117, 110, 119, 114, 105, 116, 101]⟩, ⟨#[119, 97, 105, 116]⟩, ⟨#[119, 97, 107, 101]⟩, ⟨#[103, 105, 118, 101]⟩, ⟨#[110, 111, 98, 111, 100, 121]⟩, ⟨#[98, 101, 103, 105, 110]⟩, ⟨#[101, 110, 100]⟩, ⟨#[102, 97, 105, 108]⟩, ⟨#[100, 111, 110, 101]⟩, ⟨#[115, 105, 99, 107]⟩]
def nmS (k : Nat) : ByteArray := nmL.getD k ⟨#[]⟩
/-- Is a number one of a kind's? -/
def isK (k : Nat) : Bool := (decide (1 ≤ k) && decide (k ≤ 5)) || (decide (16 ≤ k) && decide (k ≤ 37))
theorem nmS_far {k : Nat} (h : 38 ≤ k) : nmS k = ⟨#[]⟩ := by
  unfold nmS
  rw [List.getD_eq_getElem?_getD, List.getElem?_eq_none (by exact h)]; rfl
theorem all38 {p : Nat → Bool} (h : (List.range 38).all p = true) {k : Nat} (hk : k < 38) : p k = true := List.all_eq_true.1 h k (List.mem_range.2 hk)
theorem isK_iff (k : Nat) : (nmS k = ⟨#[]⟩) ↔ isK k = false := by
  by_cases hk : k < 38
  · have := all38 (p := fun k => decide ((nmS k = ⟨#[]⟩) ↔ isK k = false)) (by decide +kernel) hk
    exact of_decide_eq_true this
  · rw [nmS_far (by omega)]
    simp [isK]; omega
theorem bt (x : ByteArray) : x.toList.isEmpty = decide (x = ⟨#[]⟩) := by
  rcases x with ⟨a⟩
  by_cases h : a = #[]
  · subst h; decide +kernel
  · have : ¬ (⟨a⟩ : ByteArray) = ⟨#[]⟩ := fun e => h (by injection e)
    rw [ByteArray.toList_eq, decide_eq_false this]
    cases a with | mk l => cases l with
      | nil => exact absurd rfl h
      | cons _ _ => rfl
/-- The program's table stands. -/
def Tab (w : World) : Prop := 0 < w.heap.size ∧ ∀ k, k < 38 → w.cell? ⟨0, k, none⟩ = some (.string (nmS k))
theorem Tab.below {w w' : World} {b : Nat} (h : Tab w) (hb : Below b w w') (h0 : 0 < b) : Tab w' :=
  ⟨by have := hb.size; have := h.1; omega, fun k hk => (hb.cell (p := ⟨0, k, none⟩) h0).trans (h.2 k hk)⟩
theorem Tab.kept {S : Nat → Prop} {w w' : World} (h : Tab w) (t : Turns S w w') (h0 : ¬ S 0) : Tab w' :=
  ⟨Nat.lt_of_lt_of_le h.1 t.size, fun k hk => (t.cell h.1 h0).trans (h.2 k hk)⟩
theorem Tab.drew {w : World} (h : Tab w) : Tab w.drew := h
set_option maxRecDepth 100000 in
theorem name_any (k : Nat) (hk : k < 256) (w : World) (h : Tab w) : Calls Tryd.prog 16 #[.int .u8 (k : Int)] w fun e w' => e = .returned (.string (nmS k)) ∧ w = w' := by
  have hwr : IntKind.i64.wrap (k : Int) = k := by rw [IntKind.wrap_i64]; omega
  by_cases hlt : k < 38
  · have c0 := h.2 k hlt
    clear h
    have h38 : ¬ (38 : Int) ≤ (k : Int) := by omega
    generalize nmS k = x at *
    go_enter Tryd.func16, Tryd.ntmps16
    go_wp2
    go_ret
    exact ⟨rfl, rfl⟩
  · rw [nmS_far (by omega)]
    have h38 : (38 : Int) ≤ (k : Int) := by omega
    go_enter Tryd.func16, Tryd.ntmps16
    go_wp2
    go_ret
    exact ⟨rfl, rfl⟩
theorem isKind_any (k : Nat) (hk : k < 256) (w : World) (h : Tab w) : Calls Tryd.prog 20 #[.int .u8 (k : Int)] w fun e w' => e = .returned (.bool (isK k)) ∧ w = w' := by
  have hq := name_any k hk w h
  have hi := isK_iff k
  generalize nmS k = x at *
  clear h
  cases hb : isK k <;> rw [hb] at hi
  · obtain rfl : x = ⟨#[]⟩ := hi.2 rfl
    clear hi
    go_enter Tryd.func20, Tryd.ntmps20
    go_wp2_with (go_at_call 16; refine hq.mono ?_; rintro e w' ⟨rfl, rfl⟩)
    go_ret
    exact ⟨rfl, rfl⟩
  · have hne : ¬ x = ⟨#[]⟩ := fun e => by have := hi.1 e; cases this
    clear hi
    go_enter Tryd.func20, Tryd.ntmps20
    go_wp2_with (go_at_call 16; refine hq.mono ?_; rintro e w' ⟨rfl, rfl⟩)
    go_ret

    exact ⟨by rw [bt, decide_eq_false hne]; rfl, rfl⟩
/-- Is it one of the lot's? -/
def lotB (k : Nat) : Bool := decide (1 ≤ k) && decide (k ≤ 5)
theorem lot_any (k : Nat) (hk : k < 256) (w : World) : Calls Tryd.prog 18 #[.int .u8 (k : Int)] w fun e w' => e = .returned (.bool (lotB k)) ∧ w = w' := by
  unfold lotB
  by_cases h1 : (1 : Int) ≤ (k : Int)
  · have e1 : decide (1 ≤ k) = true := by simp; omega
    rw [e1]
    by_cases h2 : (k : Int) ≤ 5
    · have e2 : decide (k ≤ 5) = true := by simp; omega
      rw [e2]
      go_enter Tryd.func18, Tryd.ntmps18
      go_wp2
      go_ret
      exact ⟨rfl, rfl⟩
    · have e2 : decide (k ≤ 5) = false := by simp; omega
      rw [e2]
      go_enter Tryd.func18, Tryd.ntmps18
      go_wp2
      go_ret
      exact ⟨rfl, rfl⟩
  · have e1 : decide (1 ≤ k) = false := by simp; omega
    rw [e1]
    go_enter Tryd.func18, Tryd.ntmps18
    go_wp2
    go_ret
    exact ⟨rfl, rfl⟩
theorem rlot_any (k : Nat) (hk : k < 256) (w : World) : Calls Tryd.prog 19 #[.int .i64 (k : Int)] w fun e w' => e = .returned (.bool (lotB k)) ∧ w = w' := by
  unfold lotB
  by_cases h1 : (1 : Int) ≤ (k : Int)
  · have e1 : decide (1 ≤ k) = true := by simp; omega
    rw [e1]
    by_cases h2 : (k : Int) ≤ 5
    · have e2 : decide (k ≤ 5) = true := by simp; omega
      rw [e2]
      go_enter Tryd.func19, Tryd.ntmps19
      go_wp2
      go_ret
      exact ⟨rfl, rfl⟩
    · have e2 : decide (k ≤ 5) = false := by simp; omega
      rw [e2]
      go_enter Tryd.func19, Tryd.ntmps19
      go_wp2
      go_ret
      exact ⟨rfl, rfl⟩
  · have e1 : decide (1 ≤ k) = false := by simp; omega
    rw [e1]
    go_enter Tryd.func19, Tryd.ntmps19
    go_wp2
    go_ret
    exact ⟨rfl, rfl⟩
abbrev nmV : Array Value := (nmL.map Value.string).toArray
theorem idx57 : ∀ (k : Nat) (_ : k < 38) (w : World), (Instr.index 57 (.agg nmV) (.int .i64 (k : Int))).run Tryd.prog w = .ok (.string (nmS k)) w
  | 0, _, _ => by kernel_rfl
  | 1, _, _ => by kernel_rfl
  | 2, _, _ => by kernel_rfl
  | 3, _, _ => by kernel_rfl
  | 4, _, _ => by kernel_rfl
  | 5, _, _ => by kernel_rfl
  | 6, _, _ => by kernel_rfl
  | 7, _, _ => by kernel_rfl
  | 8, _, _ => by kernel_rfl
  | 9, _, _ => by kernel_rfl
  | 10, _, _ => by kernel_rfl
  | 11, _, _ => by kernel_rfl
  | 12, _, _ => by kernel_rfl
  | 13, _, _ => by kernel_rfl
  | 14, _, _ => by kernel_rfl
  | 15, _, _ => by kernel_rfl
  | 16, _, _ => by kernel_rfl
  | 17, _, _ => by kernel_rfl
  | 18, _, _ => by kernel_rfl
  | 19, _, _ => by kernel_rfl
  | 20, _, _ => by kernel_rfl
  | 21, _, _ => by kernel_rfl
  | 22, _, _ => by kernel_rfl
  | 23, _, _ => by kernel_rfl
  | 24, _, _ => by kernel_rfl
  | 25, _, _ => by kernel_rfl
  | 26, _, _ => by kernel_rfl
  | 27, _, _ => by kernel_rfl
  | 28, _, _ => by kernel_rfl
  | 29, _, _ => by kernel_rfl
  | 30, _, _ => by kernel_rfl
  | 31, _, _ => by kernel_rfl
  | 32, _, _ => by kernel_rfl
  | 33, _, _ => by kernel_rfl
  | 34, _, _ => by kernel_rfl
  | 35, _, _ => by kernel_rfl
  | 36, _, _ => by kernel_rfl
  | 37, _, _ => by kernel_rfl
  | k + 38, h, _ => by omega
def lotL : List ByteArray := [⟨#[112, 97, 114, 107]⟩, ⟨#[116, 97, 107, 101]⟩, ⟨#[112, 105, 99, 107]⟩, ⟨#[109, 111, 118, 101]⟩, ⟨#[103, 111, 110, 101]⟩]
def locksL : List ByteArray := [⟨#[108, 111, 99, 107]⟩, ⟨#[102, 114, 101, 101]⟩, ⟨#[104, 97, 110, 100]⟩, ⟨#[98, 117, 115, 121]⟩, ⟨#[108, 97, 116, 101]⟩, ⟨#[114, 101, 97, 100]⟩, ⟨#[117, 112, 103, 114]⟩, ⟨#[99, 108, 97, 105, 109]⟩, ⟨#[119, 114, 105, 116, 101]⟩, ⟨#[117, 110, 114, 101, 97, 100]⟩, ⟨#[117, 110, 117, 112, 103, 114]⟩, ⟨#[117, 110, 99, 108, 97, 105, 109]⟩, ⟨#[117, 110, 119, 114, 105, 116, 101]⟩, ⟨#[119, 97, 105, 116]⟩, ⟨#[119, 97, 107, 101]⟩, ⟨#[103, 105, 118, 101]⟩, ⟨#[110, 111, 98, 111, 100, 121]⟩, ⟨#[98, 101, 103, 105, 110]⟩, ⟨#[101, 110, 100]⟩, ⟨#[102, 97, 105, 108]⟩, ⟨#[100, 111, 110, 101]⟩, ⟨#[115, 105, 99, 107]⟩]
def zero57 : Array Value := #[.string ⟨#[]⟩, .string ⟨#[]⟩, .string ⟨#[]⟩, .string ⟨#[]⟩, .string ⟨#[]⟩, .string ⟨#[]⟩, .string ⟨#[]⟩, .string ⟨#[]⟩, .string ⟨#[]⟩, .string ⟨#[]⟩, .string ⟨#[]⟩, .string ⟨#[]⟩, .string ⟨#[]⟩, .string ⟨#[]⟩, .string ⟨#[]⟩, .string ⟨#[]⟩, .string ⟨#[]⟩, .string ⟨#[]⟩, .string ⟨#[]⟩, .string ⟨#[]⟩, .string ⟨#[]⟩, .string ⟨#[]⟩, .string ⟨#[]⟩, .string ⟨#[]⟩, .string ⟨#[]⟩, .string ⟨#[]⟩, .string ⟨#[]⟩, .string ⟨#[]⟩, .string ⟨#[]⟩, .string ⟨#[]⟩, .string ⟨#[]⟩, .string ⟨#[]⟩, .string ⟨#[]⟩, .string ⟨#[]⟩, .string ⟨#[]⟩, .string ⟨#[]⟩, .string ⟨#[]⟩, .string ⟨#[]⟩]
/-- The document's table, as it is filled: of the lot, then of locks. -/
def fillA : Nat → Array Value
  | 0 => zero57
  | n + 1 => (fillA n).setIfInBounds (1 + n) (.string (lotL.getD n ⟨#[]⟩))
def fillB : Nat → Array Value
  | 0 => fillA 5
  | n + 1 => (fillB n).setIfInBounds (16 + n) (.string (locksL.getD n ⟨#[]⟩))
theorem fill_all : fillB 22 = nmV := by kernel_rfl
theorem fillA_size (n : Nat) : (fillA n).size = 38 := by
  induction n with
  | zero => rfl
  | succ n ih => rw [fillA, Array.size_setIfInBounds, ih]
theorem fillB_size (n : Nat) : (fillB n).size = 38 := by
  induction n with
  | zero => exact fillA_size 5
  | succ n ih => rw [fillB, Array.size_setIfInBounds, ih]
end Go.Proofs.YtoefgfolokcdhaaDoor
