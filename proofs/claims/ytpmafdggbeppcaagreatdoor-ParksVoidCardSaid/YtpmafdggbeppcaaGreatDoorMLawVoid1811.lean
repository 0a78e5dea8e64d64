/- Texts of this seat, one behind the other. -/
import Derived.Test.YtpmafdggbeppcaaGreatDoorMLawVoid1810
set_option linter.unusedVariables false
set_option linter.unusedSimpArgs false
namespace Go.Proofs.YtpmafdggbeppcaaGreatDoor.S5
open Go.Proofs.YtpmafdggbeppcaaGreatDoor
open Go.RowKit
def lnk (S : Lk) (t : Nat) : Value := .agg #[.int .i64 ((S (t * 3) : Int) - 1), .int .i64 ((S (t * 3 + 1) : Int) - 1), .int .i64 ((S (t * 3 + 2) : Int) - 1)]
theorem below1 (w : World) (o : Obj) : Below w.heap.size w (w.alloc o) := (Below.refl _ _).alloc (Nat.le_refl _) _
theorem below2 (w : World) (o p : Obj) : Below w.heap.size w ((w.alloc o).alloc p) := (below1 w o).alloc (by simp) _
theorem at_yes {w : World} {B : Nat} {S : Lk} (h : Has w B S) (t : Nat) (ht : t < 64) : Calls Tryz.prog 63 #[Pt B, .int .i64 (t : Int)] w fun e w' => e = .returned (lnk S t) ∧ Below w.heap.size w w' := by
  unfold lnk
  have hh := has_yes B t ht
  have c0 := h.cell (t * 3) (by omega)
  have c1 := h.cell (t * 3 + 1) (by omega)
  have c2 := h.cell (t * 3 + 2) (by omega)
  have l0 := h.le (t * 3)
  have l1 := h.le (t * 3 + 1)
  have l2 := h.le (t * 3 + 2)
  have hlt := h.lt
  have HH := Lib.hid hh
  clear hh h
  generalize S (t * 3) = x at *
  generalize S (t * 3 + 1) = y at *
  generalize S (t * 3 + 2) = z at *
  go_enter Tryz.func63, Tryz.ntmps63
  go_wp2_with (first
    | (go_at_call 110; refine (HH.out _).mono ?_; rintro e w' ⟨rfl, rfl⟩))
  exact bodyPost_ret (v := .agg #[.int .i64 ((x : Int) - 1), .int .i64 ((y : Int) - 1), .int .i64 ((z : Int) - 1)]) (by simp [results, Tryz.results63, go_sem]) rfl ⟨rfl, below2 w _ _⟩
def put3 (S : Lk) (t a b c : Nat) : Lk := upd (upd (upd S (t * 3) a) (t * 3 + 1) b) (t * 3 + 2) c
theorem Has.put3 {w : World} {B : Nat} {S : Lk} (h : Has w B S) {t a b c : Nat} (ht : t < 64) (ha : a ≤ 64) (hb : b ≤ 64) (hc : c ≤ 64) :
    Has (((w.setCell ⟨B, t * 3, none⟩ (.int .i64 (a : Nat))).setCell ⟨B, t * 3 + 1, none⟩ (.int .i64 (b : Nat))).setCell ⟨B, t * 3 + 2, none⟩ (.int .i64 (c : Nat))) B (YtpmafdggbeppcaaGreatDoor.S5.put3 S t a b c) :=
  ((h.set (by omega) ha).set (by omega) hb).set (by omega) hc
theorem turns3 (w : World) (B i j k : Nat) (x y z : Value) : Turns (fun b => b = B) w (((w.setCell ⟨B, i, none⟩ x).setCell ⟨B, j, none⟩ y).setCell ⟨B, k, none⟩ z) :=
  (((Turns.refl (fun b => b = B) w).setCell ⟨B, i, none⟩ x rfl).setCell ⟨B, j, none⟩ y rfl).setCell ⟨B, k, none⟩ z rfl
def pushed (S : Lk) (t : Nat) : Option Nat → Lk
  | some h => put3 S t (h + 1) 0 0
  | none => put3 S t 0 0 (t + 1)
def Num (x : Int) : Option Nat → Prop
  | some t => x = (t : Int) ∧ t < 64
  | none => notT x
theorem cast1 (t : Nat) : ((t + 1 : Nat) : Int) = (t : Int) + 1 := by omega
theorem cast0 : ((0 : Nat) : Int) = 0 := rfl
theorem push_some {w : World} {B : Nat} {S : Lk} (h : Has w B S) (t hd : Nat) (ht : t < 64) (hh : hd < 64) : Calls Tryz.prog 230 #[Pt B, .int .i64 (t : Int), .int .i64 (hd : Int)] w fun e w' => e = .returned (.tuple #[]) ∧ Has w' B (pushed S t (some hd)) ∧ Turns (fun k => k = B) w w' := by
  have h1 := has_yes B t ht
  have h2 := has_yes B hd hh
  have c0 := h.cell (t * 3) (by omega)
  have c1 := h.cell (t * 3 + 1) (by omega)
  have c2 := h.cell (t * 3 + 2) (by omega)
  have f0 := h.froz (t * 3) (by omega)
  have f1 := h.froz (t * 3 + 1) (by omega)
  have f2 := h.froz (t * 3 + 2) (by omega)
  have hp := h.put3 (t := t) (a := hd + 1) (b := 0) (c := 0) ht (by omega) (by omega) (by omega)
  rw [cast1, cast0] at hp
  have H1 := Lib.hid h1; have H2 := Lib.hid h2; have HP := Lib.hid hp
  clear h1 h2 hp h
  generalize S (t * 3) = x at *
  generalize S (t * 3 + 1) = y at *
  generalize S (t * 3 + 2) = z at *
  go_enter Tryz.func230, Tryz.ntmps230
  go_wp2_with fail
  refine (H1.out _).mono ?_
  rintro e w' ⟨rfl, rfl⟩
  go_wp2_with fail
  refine (H2.out _).mono ?_
  rintro e w' ⟨rfl, rfl⟩
  go_wp2_with fail
  (try simp only [Exit.inBlock, Exit.then]); refine bodyPost_ret (results_none rfl _ _ _) rfl ?_
  exact ⟨rfl, HP.out, turns3 _ _ _ _ _ _ _ _⟩
theorem push_none {w : World} {B : Nat} {S : Lk} (h : Has w B S) (t : Nat) (x : Int) (ht : t < 64) (hx : notT x) : Calls Tryz.prog 230 #[Pt B, .int .i64 (t : Int), .int .i64 x] w fun e w' => e = .returned (.tuple #[]) ∧ Has w' B (pushed S t none) ∧ Turns (fun k => k = B) w w' := by
  have h1 := has_yes B t ht
  have h2 := has_no B x hx
  have c0 := h.cell (t * 3) (by omega)
  have c1 := h.cell (t * 3 + 1) (by omega)
  have c2 := h.cell (t * 3 + 2) (by omega)
  have f0 := h.froz (t * 3) (by omega)
  have f1 := h.froz (t * 3 + 1) (by omega)
  have f2 := h.froz (t * 3 + 2) (by omega)
  have hp := h.put3 (t := t) (a := 0) (b := 0) (c := t + 1) ht (by omega) (by omega) (by omega)
  rw [cast1, cast0] at hp
  have H1 := Lib.hid h1; have H2 := Lib.hid h2; have HP := Lib.hid hp
  clear h1 h2 hp h
  generalize S (t * 3) = x' at *
  generalize S (t * 3 + 1) = y at *
  generalize S (t * 3 + 2) = z at *
  go_enter Tryz.func230, Tryz.ntmps230
  go_wp2_with fail
  refine (H1.out _).mono ?_
  rintro e w' ⟨rfl, rfl⟩
  go_wp2_with fail
  refine (H2.out _).mono ?_
  rintro e w' ⟨rfl, rfl⟩
  go_wp2_with fail
  go_end0
  exact ⟨rfl, HP.out, turns3 _ _ _ _ _ _ _ _⟩
theorem push_no {w : World} {B : Nat} (x y : Int) (hx : notT x) : Calls Tryz.prog 230 #[Pt B, .int .i64 x, .int .i64 y] w fun e w' => e = .returned (.tuple #[]) ∧ w = w' := by
  have h1 := has_no B x hx
  have H1 := Lib.hid h1
  clear h1
  go_enter Tryz.func230, Tryz.ntmps230
  go_wp2_with fail
  refine (H1.out _).mono ?_
  rintro e w' ⟨rfl, rfl⟩
  go_wp2_with fail
  (try simp only [Exit.inBlock, Exit.then]); refine bodyPost_ret (results_none rfl _ _ _) rfl ?_
  exact ⟨rfl, rfl⟩
def pushS (S : Lk) (t h : Option Nat) : Lk := match t with
  | some t => pushed S t h
  | none => S
def Sets (w w' : World) (B : Nat) (S : Lk) : Prop := Has w' B S ∧ Turns (fun k => k = B) w w'
theorem push_any {w : World} {B : Nat} {S : Lk} (h : Has w B S) {x y : Int} {t hd : Option Nat} (hx : Num x t) (hy : Num y hd) : Calls Tryz.prog 230 #[Pt B, .int .i64 x, .int .i64 y] w fun e w' => e = .returned (.tuple #[]) ∧ Sets w w' B (pushS S t hd) := by
  cases t with
  | none => exact (push_no x y hx).mono fun e w' ⟨he, hw⟩ => ⟨he, by subst hw; exact ⟨h, Turns.refl _ _⟩⟩
  | some t =>
    obtain ⟨rfl, ht⟩ := hx
    cases hd with
    | none => exact (push_none h t y ht hy).mono fun e w' ⟨he, h1, h2⟩ => ⟨he, h1, h2⟩
    | some d => obtain ⟨rfl, hd⟩ := hy; exact (push_some h t d ht hd).mono fun e w' ⟨he, h1, h2⟩ => ⟨he, h1, h2⟩
end Go.Proofs.YtpmafdggbeppcaaGreatDoor.S5
namespace Go.Proofs.YtpmafdggbeppcaaGreatDoor.S10
open Go.Proofs.YtpmafdggbeppcaaGreatDoor
open Go.RowKit
def tabB (b : Int) : Bool := decide (2 ≤ b) && decide (b ≤ 8)
theorem tab_no {b : Int} (h : b < 2 ∨ 8 < b) : tabB b = false := by
  unfold tabB
  rcases h with h | h
  · rw [decide_eq_false (by omega), Bool.false_and]
  · rw [decide_eq_false (p := b ≤ 8) (by omega), Bool.and_false]
theorem tab_yes {b : Int} (h : 2 ≤ b) (g : b ≤ 8) : tabB b = true := by
  unfold tabB
  rw [decide_eq_true h, decide_eq_true g]; rfl
theorem is_any (b : Int) (w : World) : Calls Tryz.prog 136 #[.int .i64 b] w fun e w' => e = .returned (.bool (tabB b)) ∧ w = w' := by
  unfold tabB
  by_cases h : 2 ≤ b
  · rw [decide_eq_true h, Bool.true_and]
    go_enter Tryz.func136, Tryz.ntmps136
    go_wp2
    go_ret
    exact ⟨rfl, rfl⟩
  · rw [decide_eq_false h, Bool.false_and]
    have h' : b < 2 := by omega
    go_enter Tryz.func136, Tryz.ntmps136
    go_wp2
    go_ret
    exact ⟨rfl, rfl⟩
def sizeN (b : Int) : Nat := if 2 ≤ b ∧ b ≤ 8 then 2 ^ b.toNat else 0
theorem seven {b : Int} (h : 2 ≤ b) (g : b ≤ 8) : b = 2 ∨ b = 3 ∨ b = 4 ∨ b = 5 ∨ b = 6 ∨ b = 7 ∨ b = 8 := by omega
theorem size_no (b : Int) (h : b < 2 ∨ 8 < b) (w : World) : Calls Tryz.prog 119 #[.int .i64 b] w fun e w' => e = .returned (.int .i64 0) ∧ w = w' := by
  have q := is_any b w
  rw [tab_no h] at q
  have Q := Lib.hid q
  clear q h
  go_enter Tryz.func119, Tryz.ntmps119
  go_wp2_with fail
  refine Q.out.mono ?_
  rintro e w' ⟨rfl, rfl⟩
  go_wp2_with fail
  go_ret
  exact ⟨rfl, rfl⟩
theorem size_at (b : Int) (n : Int) (h : 2 ≤ b) (g : b ≤ 8) (hn : n = ((2 ^ b.toNat : Nat) : Int)) (w : World) : Calls Tryz.prog 119 #[.int .i64 b] w fun e w' => e = .returned (.int .i64 n) ∧ w = w' := by
  have q := is_any b w
  rw [tab_yes h g] at q
  have Q := Lib.hid q
  clear q
  rcases seven h g with rfl | rfl | rfl | rfl | rfl | rfl | rfl
  all_goals
    subst hn
    clear h g
    go_enter Tryz.func119, Tryz.ntmps119
    go_wp2_with fail
    refine Q.out.mono ?_
    rintro e w' ⟨rfl, rfl⟩
    go_wp2_with fail
    go_ret
    exact ⟨rfl, rfl⟩
theorem size_any (b : Int) (w : World) : Calls Tryz.prog 119 #[.int .i64 b] w fun e w' => e = .returned (.int .i64 (sizeN b : Nat)) ∧ w = w' := by
  by_cases h : 2 ≤ b ∧ b ≤ 8
  · refine size_at b _ h.1 h.2 ?_ w
    unfold sizeN
    rw [if_pos h]
  · have := size_no b (by omega) w
    unfold sizeN
    rw [if_neg h]
    exact this
end Go.Proofs.YtpmafdggbeppcaaGreatDoor.S10
namespace Go.Proofs.YtpmafdggbeppcaaGreatDoor.S10
open Go.Proofs.YtpmafdggbeppcaaGreatDoor
open Go.RowKit
def hsh (a b : Nat) : Nat := a * 11400714819323198485 % 18446744073709551616 / 2 ^ (64 - b)
theorem hsh_lt (a b : Nat) (h : b ≤ 64) : hsh a b < 2 ^ b := by
  unfold hsh
  have e : 2 ^ 64 = 2 ^ (64 - b) * 2 ^ b := by rw [← Nat.pow_add]; congr 1; omega
  apply Nat.div_lt_of_lt_mul
  rw [← e]
  exact Nat.mod_lt _ (by omega)
theorem hsh_half (a b : Nat) (h : b < 64) : hsh a (b + 1) / 2 = hsh a b := by
  unfold hsh
  rw [Nat.div_div_eq_div_mul, ← Nat.pow_succ]
  congr 2
  omega
theorem wrap_hash (a P : Nat) (hp : 2 ≤ P) : wrap64 (IntKind.u64.wrap ((a : Int) * 11400714819323198485) / (P : Int)) = ((a * 11400714819323198485 % 18446744073709551616 / P : Nat) : Int) := by
  have e : IntKind.u64.wrap ((a : Int) * 11400714819323198485) = ((a * 11400714819323198485 % 18446744073709551616 : Nat) : Int) := by
    rw [IntKind.wrap_u64]; omega
  rw [e]
  have hm := Nat.mod_lt (a * 11400714819323198485) (by omega : 0 < 18446744073709551616)
  generalize a * 11400714819323198485 % 18446744073709551616 = m at *
  have hq : m / P < 9223372036854775808 := by
    apply Nat.div_lt_of_lt_mul
    calc m < 18446744073709551616 := hm
      _ = 2 * 9223372036854775808 := by omega
      _ ≤ P * 9223372036854775808 := Nat.mul_le_mul_right _ hp
  rw [← Int.natCast_ediv]
  generalize m / P = x at *
  unfold wrap64
  omega
theorem hash_no (a : Nat) (b : Int) (h : b < 2 ∨ 8 < b) (w : World) : Calls Tryz.prog 112 #[.int .u32 a, .int .i64 b] w fun e w' => e = .returned (.int .i64 (-1)) ∧ w = w' := by
  have q := is_any b w
  rw [tab_no h] at q
  have Q := Lib.hid q
  clear q h
  go_enter Tryz.func112, Tryz.ntmps112
  go_wp2_with fail
  refine Q.out.mono ?_
  rintro e w' ⟨rfl, rfl⟩
  go_wp2_with fail
  go_ret
  exact ⟨rfl, rfl⟩
theorem hash_yes (a b : Nat) (ha : a < 4294967296) (h : 2 ≤ b) (g : b ≤ 8) (w : World) : Calls Tryz.prog 112 #[.int .u32 a, .int .i64 b] w fun e w' => e = .returned (.int .i64 (hsh a b : Nat)) ∧ w = w' := by
  have q := is_any b w
  rw [tab_yes (by omega) (by omega)] at q
  have Q := Lib.hid q
  clear q
  have hb : b = 2 ∨ b = 3 ∨ b = 4 ∨ b = 5 ∨ b = 6 ∨ b = 7 ∨ b = 8 := by omega
  unfold hsh
  rcases hb with rfl | rfl | rfl | rfl | rfl | rfl | rfl
  · have f : wrap64 (IntKind.u64.wrap ((a : Int) * 11400714819323198485) / 4611686018427387904) = ((a * 11400714819323198485 % 18446744073709551616 / 2 ^ (64 - 2) : Nat) : Int) := wrap_hash a 4611686018427387904 (by omega)
    generalize a * 11400714819323198485 % 18446744073709551616 / 2 ^ (64 - 2) = r at *
    clear h g
    go_enter Tryz.func112, Tryz.ntmps112
    go_wp2_with fail
    refine Q.out.mono ?_
    rintro e w' ⟨rfl, rfl⟩
    go_wp2_with fail
    rw [f]
    go_ret
    exact ⟨rfl, rfl⟩
  · have f : wrap64 (IntKind.u64.wrap ((a : Int) * 11400714819323198485) / 2305843009213693952) = ((a * 11400714819323198485 % 18446744073709551616 / 2 ^ (64 - 3) : Nat) : Int) := wrap_hash a 2305843009213693952 (by omega)
    generalize a * 11400714819323198485 % 18446744073709551616 / 2 ^ (64 - 3) = r at *
    clear h g
    go_enter Tryz.func112, Tryz.ntmps112
    go_wp2_with fail
    refine Q.out.mono ?_
    rintro e w' ⟨rfl, rfl⟩
    go_wp2_with fail
    rw [f]
    go_ret
    exact ⟨rfl, rfl⟩
  · have f : wrap64 (IntKind.u64.wrap ((a : Int) * 11400714819323198485) / 1152921504606846976) = ((a * 11400714819323198485 % 18446744073709551616 / 2 ^ (64 - 4) : Nat) : Int) := wrap_hash a 1152921504606846976 (by omega)
    generalize a * 11400714819323198485 % 18446744073709551616 / 2 ^ (64 - 4) = r at *
    clear h g
    go_enter Tryz.func112, Tryz.ntmps112
    go_wp2_with fail
    refine Q.out.mono ?_
    rintro e w' ⟨rfl, rfl⟩
    go_wp2_with fail
    rw [f]
    go_ret
    exact ⟨rfl, rfl⟩
  · have f : wrap64 (IntKind.u64.wrap ((a : Int) * 11400714819323198485) / 576460752303423488) = ((a * 11400714819323198485 % 18446744073709551616 / 2 ^ (64 - 5) : Nat) : Int) := wrap_hash a 576460752303423488 (by omega)
    generalize a * 11400714819323198485 % 18446744073709551616 / 2 ^ (64 - 5) = r at *
    clear h g
    go_enter Tryz.func112, Tryz.ntmps112
    go_wp2_with fail
    refine Q.out.mono ?_
    rintro e w' ⟨rfl, rfl⟩
    go_wp2_with fail
    rw [f]
    go_ret
    exact ⟨rfl, rfl⟩
  · have f : wrap64 (IntKind.u64.wrap ((a : Int) * 11400714819323198485) / 288230376151711744) = ((a * 11400714819323198485 % 18446744073709551616 / 2 ^ (64 - 6) : Nat) : Int) := wrap_hash a 288230376151711744 (by omega)
    generalize a * 11400714819323198485 % 18446744073709551616 / 2 ^ (64 - 6) = r at *
    clear h g
    go_enter Tryz.func112, Tryz.ntmps112
    go_wp2_with fail
    refine Q.out.mono ?_
    rintro e w' ⟨rfl, rfl⟩
    go_wp2_with fail
    rw [f]
    go_ret
    exact ⟨rfl, rfl⟩
  · have f : wrap64 (IntKind.u64.wrap ((a : Int) * 11400714819323198485) / 144115188075855872) = ((a * 11400714819323198485 % 18446744073709551616 / 2 ^ (64 - 7) : Nat) : Int) := wrap_hash a 144115188075855872 (by omega)
    generalize a * 11400714819323198485 % 18446744073709551616 / 2 ^ (64 - 7) = r at *
    clear h g
    go_enter Tryz.func112, Tryz.ntmps112
    go_wp2_with fail
    refine Q.out.mono ?_
    rintro e w' ⟨rfl, rfl⟩
    go_wp2_with fail
    rw [f]
    go_ret
    exact ⟨rfl, rfl⟩
  · have f : wrap64 (IntKind.u64.wrap ((a : Int) * 11400714819323198485) / 72057594037927936) = ((a * 11400714819323198485 % 18446744073709551616 / 2 ^ (64 - 8) : Nat) : Int) := wrap_hash a 72057594037927936 (by omega)
    generalize a * 11400714819323198485 % 18446744073709551616 / 2 ^ (64 - 8) = r at *
    clear h g
    go_enter Tryz.func112, Tryz.ntmps112
    go_wp2_with fail
    refine Q.out.mono ?_
    rintro e w' ⟨rfl, rfl⟩
    go_wp2_with fail
    rw [f]
    go_ret
    exact ⟨rfl, rfl⟩
def hashZ (a : Nat) (b : Int) : Int := if 2 ≤ b ∧ b ≤ 8 then (hsh a b.toNat : Nat) else -1
theorem hash_any (a : Nat) (b : Int) (ha : a < 4294967296) (w : World) : Calls Tryz.prog 112 #[.int .u32 a, .int .i64 b] w fun e w' => e = .returned (.int .i64 (hashZ a b)) ∧ w = w' := by
  unfold hashZ
  by_cases h : 2 ≤ b ∧ b ≤ 8
  · obtain ⟨n, rfl⟩ := Int.eq_ofNat_of_zero_le (show 0 ≤ b by omega)
    rw [if_pos h]
    exact hash_yes a n ha (by omega) (by omega) w
  · rw [if_neg h]
    exact hash_no a b (by omega) w
theorem size_le (b : Int) : sizeN b ≤ 256 := by
  unfold sizeN
  split
  · rename_i h
    calc 2 ^ b.toNat ≤ 2 ^ 8 := Nat.pow_le_pow_right (by omega) (by omega)
      _ = 256 := rfl
  · omega
end Go.Proofs.YtpmafdggbeppcaaGreatDoor.S10
namespace Go.Proofs.YtpmafdggbeppcaaGreatDoor.S10
open Go.Proofs.YtpmafdggbeppcaaGreatDoor
open Go.RowKit
structure Turns (S : Nat → Prop) (w w' : World) : Prop where
  os : w'.os = w.os
  tape : w'.tape = w.tape
  output : w'.output = w.output
  size : w.heap.size ≤ w'.heap.size
  block : ∀ k, k < w.heap.size → ¬ S k → w'.heap[k]? = w.heap[k]?
theorem Turns.refl (S : Nat → Prop) (w : World) : Turns S w w := ⟨rfl, rfl, rfl, Nat.le_refl _, fun _ _ _ => rfl⟩
theorem Turns.trans {S T : Nat → Prop} {a b c : World} (h : Turns S a b) (g : Turns T b c) (hs : ∀ k, k < a.heap.size → T k → S k) : Turns S a c :=
  ⟨g.os.trans h.os, g.tape.trans h.tape, g.output.trans h.output, Nat.le_trans h.size g.size, fun k hk hn => (g.block k (Nat.lt_of_lt_of_le hk h.size) (fun ht => hn (hs k hk ht))).trans (h.block k hk hn)⟩
theorem Turns.mono {S T : Nat → Prop} {a b : World} (h : Turns S a b) (hs : ∀ k, k < a.heap.size → S k → T k) : Turns T a b :=
  (Turns.refl T a).trans h hs
theorem Turns.of_below {S : Nat → Prop} {a b : World} (h : Below a.heap.size a b) : Turns S a b :=
  ⟨h.os, h.tape, h.output, h.size, fun k hk _ => h.block k hk⟩
theorem Turns.below {S : Nat → Prop} {a b : World} {B : Nat} (h : Turns S a b) (hB : B ≤ a.heap.size) (hs : ∀ k, k < B → ¬ S k) : Below B a b :=
  ⟨h.os, h.tape, h.output, h.size, fun k hk => h.block k (by omega) (hs k hk)⟩
theorem Turns.alloc {S : Nat → Prop} {a b : World} (h : Turns S a b) (o : Obj) : Turns S a (b.alloc o) :=
  h.trans (T := fun _ => False) ⟨rfl, rfl, rfl, by simp, fun k hk _ => Below.heap_alloc _ _ _ hk⟩ (fun _ _ h => h.elim)
theorem Turns.drew {S : Nat → Prop} {a b : World} (h : Turns S a b) : Turns S a b.drew :=
  ⟨h.os, h.tape, h.output, h.size, h.block⟩
theorem Turns.setCell {S : Nat → Prop} {a b : World} (h : Turns S a b) (p : Addr) (u : Value) (hp : S p.block) : Turns S a (b.setCell p u) :=
  h.trans (T := fun k => k = p.block) ⟨rfl, rfl, rfl, by simp [World.setCell], fun k _ hn => Below.heap_setCell _ _ _ _ hn⟩ (fun k _ e => e ▸ hp)
theorem Turns.setCells {S : Nat → Prop} {a b : World} (h : Turns S a b) (g : Nat) (hg : S g) : ∀ (vs : List Value) (o : Nat), Turns S a (b.setCells g o vs)
  | [], _ => h
  | v :: r, o => by
    have h1 := h.setCell ⟨g, o, none⟩ v hg
    exact Turns.setCells h1 g hg r (o + 1)
theorem Turns.cell {S : Nat → Prop} {a b : World} (h : Turns S a b) {g o : Nat} (hg : g < a.heap.size) (hn : ¬ S g) : b.cell? ⟨g, o, none⟩ = a.cell? ⟨g, o, none⟩ :=
  World.cell?_of_block (a := ⟨g, o, none⟩) (h.block g hg hn)
theorem Turns.frozen {S : Nat → Prop} {a b : World} (h : Turns S a b) {g o : Nat} (hg : g < a.heap.size) (hn : ¬ S g) : b.frozen? ⟨g, o, none⟩ = a.frozen? ⟨g, o, none⟩ :=
  World.frozen?_of_block (a := ⟨g, o, none⟩) (h.block g hg hn)
theorem cell_row {w : World} {B : Nat} {cs : Array Value} {T : TypeId} (h : w.heap[B]? = some (.cells cs T (0, 0))) (o : Nat) : w.cell? ⟨B, o, none⟩ = cs[o]? := by
  simp [World.cell?, h]
theorem froz_row {w : World} {B : Nat} {cs : Array Value} {T : TypeId} (h : w.heap[B]? = some (.cells cs T (0, 0))) (o : Nat) : w.frozen? ⟨B, o, none⟩ = false := by
  simp [World.frozen?, h]
theorem row_set {w : World} {B : Nat} {cs : Array Value} {T : TypeId} (h : w.heap[B]? = some (.cells cs T (0, 0))) (o : Nat) (v : Value) : (w.setCell ⟨B, o, none⟩ v).heap[B]? = some (.cells (cs.setIfInBounds o v) T (0, 0)) := by
  simp [World.setCell, Array.getElem?_modify, h]
structure Lay (S E sz bt : Nat) (z : Value) : Prop where
  und : Tryz.prog.underlying S = some (.slice E)
  info : ∃ i, Tryz.prog.info? E = some i ∧ i.zero = some z ∧ i.size = sz ∧ i.bytes = bt
  zc : z.cells.size = sz
  pos : 0 < sz
  few : bt ≤ 1000
def Lies (w : World) (g o : Nat) (cs : List Value) : Prop := ∀ j u, cs[j]? = some u → w.cell? ⟨g, o + j, none⟩ = some u
def Rd (w : World) (base : Nat) (A : Option Addr) (cs : List Value) : Prop := 0 < cs.length → ∃ g o, A = some ⟨g, o, none⟩ ∧ g < base ∧ Lies w g o cs
def Row (w : World) (base sz : Nat) (s : Value) (n : Nat) (cs : List Value) : Prop :=
  ∃ A cap, s = .slice A n cap ∧ cs.length = n * sz ∧ n ≤ cap ∧ cap ≤ maxLen ∧ (A = none → cap = 0) ∧
    ∀ ad, A = some ad → ∃ g o, ad = ⟨g, o, none⟩ ∧ base ≤ g ∧ g < w.heap.size ∧ Lies w g o cs ∧ ∀ j, j < cap * sz → (w.cell? ⟨g, o + j, none⟩).isSome = true ∧ w.frozen? ⟨g, o + j, none⟩ = false
theorem Lies.of {w w' : World} {g o : Nat} {cs : List Value} (h : Lies w g o cs) (e : ∀ j, w'.cell? ⟨g, o + j, none⟩ = w.cell? ⟨g, o + j, none⟩) : Lies w' g o cs := fun j u hj => (e j).trans (h j u hj)
theorem Rd.below {w w' : World} {base b : Nat} {A : Option Addr} {cs : List Value} (h : Rd w base A cs) (hb : Below b w w') (hbb : base ≤ b) : Rd w' base A cs := fun hp => by
  obtain ⟨g, o, e, hg, hl⟩ := h hp
  exact ⟨g, o, e, hg, hl.of fun j => hb.cell (p := ⟨g, o + j, none⟩) (by show g < b; omega)⟩
theorem Rd.more {w : World} {base b : Nat} {A : Option Addr} {cs : List Value} (h : Rd w base A cs) (hb : base ≤ b) : Rd w b A cs := fun hp => by
  obtain ⟨g, o, e, hg, hl⟩ := h hp
  exact ⟨g, o, e, by omega, hl⟩
theorem Rd.nil {w : World} {base : Nat} {A : Option Addr} : Rd w base A [] := fun h => by simp at h
theorem Rd.drew {w : World} {base : Nat} {A : Option Addr} {cs : List Value} (h : Rd w base A cs) : Rd w.drew base A cs := h
theorem Row.drew {w : World} {base sz n : Nat} {s : Value} {cs : List Value} (h : Row w base sz s n cs) : Row w.drew base sz s n cs := h
theorem row_nil (w : World) (base sz : Nat) : Row w base sz (.slice none 0 0) 0 [] :=
  ⟨none, 0, rfl, by simp, Nat.le_refl _, Nat.zero_le _, fun _ => rfl, fun _ e => by cases e⟩
theorem Row.keep {S : Nat → Prop} {w w' : World} {base sz n : Nat} {s : Value} {cs : List Value} (h : Row w base sz s n cs) (t : Turns S w w') (hs : ∀ g, s.ownBlock = some g → ¬ S g) : Row w' base sz s n cs := by
  obtain ⟨A, cap, rfl, h0, h1, h2, h3, h4⟩ := h
  refine ⟨A, cap, rfl, h0, h1, h2, h3, fun ad e => ?_⟩
  obtain ⟨g, o, rfl, hb, hg, hl, hc⟩ := h4 ad e
  have hn := hs g (by rw [e]; rfl)
  exact ⟨g, o, rfl, hb, Nat.lt_of_lt_of_le hg t.size, hl.of fun j => t.cell hg hn, fun j hj => ⟨by rw [t.cell hg hn]; exact (hc j hj).1, (t.frozen hg hn).trans (hc j hj).2⟩⟩
theorem Row.lt {w : World} {base sz n : Nat} {s : Value} {cs : List Value} (h : Row w base sz s n cs) : ∀ g, s.ownBlock = some g → base ≤ g ∧ g < w.heap.size := by
  obtain ⟨A, cap, rfl, h0, h1, h2, h3, h4⟩ := h
  intro g hg
  cases A with
  | none => simp [Value.ownBlock] at hg
  | some ad =>
    obtain ⟨g', o, rfl, hb, hlt, _⟩ := h4 ad rfl
    have : g' = g := by simpa [Value.ownBlock] using hg
    subst this
    exact ⟨hb, hlt⟩
theorem Row.new {w w' : World} {base sz n : Nat} {s : Value} {cs : List Value} (h : Row w base sz s n cs) (hb : Below w.heap.size w w') : Row w' base sz s n cs :=
  h.keep (Turns.of_below (S := fun _ => False) hb) (fun _ _ e => e)
theorem Row.base {w : World} {base b sz n : Nat} {s : Value} {cs : List Value} (h : Row w base sz s n cs) (hb : b ≤ base) : Row w b sz s n cs := by
  obtain ⟨A, cap, rfl, h0, h1, h2, h3, h4⟩ := h
  refine ⟨A, cap, rfl, h0, h1, h2, h3, fun ad e => ?_⟩
  obtain ⟨g, o, rfl, hb', hg, hl, hc⟩ := h4 ad e
  exact ⟨g, o, rfl, by omega, hg, hl, hc⟩
theorem Row.len {w : World} {base sz n : Nat} {s : Value} {cs : List Value} (h : Row w base sz s n cs) : cs.length = n * sz := let ⟨_, _, _, h0, _⟩ := h; h0
theorem Row.shape {w : World} {base sz n : Nat} {s : Value} {cs : List Value} (h : Row w base sz s n cs) : ∃ A cap, s = .slice A n cap ∧ n ≤ cap ∧ cap ≤ 9223372036854775807 := let ⟨A, cap, e, _, h1, h2, _⟩ := h; ⟨A, cap, e, h1, by unfold maxLen at h2; omega⟩
theorem Row.rd {w : World} {base sz n cap : Nat} {A : Option Addr} {cs : List Value} (h : Row w base sz (.slice A n cap) n cs) : Rd w w.heap.size A cs := fun hp => by
  obtain ⟨A', cap', e, h0, h1, h2, h3, h4⟩ := h
  cases e
  cases A with
  | none =>
    have := h3 rfl
    have : n = 0 := by omega
    subst this
    simp at h0
    simp [h0] at hp
  | some ad =>
    obtain ⟨g, o, rfl, hb, hlt, hl, _⟩ := h4 ad rfl
    exact ⟨g, o, rfl, hlt, hl⟩
theorem Row.clip {w : World} {base sz n cap : Nat} {A : Option Addr} {cs : List Value} (h : Row w base sz (.slice A n cap) n cs) : Row w base sz (.slice A n n) n cs := by
  obtain ⟨A', cap', e, h0, h1, h2, h3, h4⟩ := h
  cases e
  refine ⟨A, n, rfl, h0, Nat.le_refl _, by omega, fun e => by have := h3 e; omega, fun ad e => ?_⟩
  obtain ⟨g, o, rfl, hb, hlt, hl, hc⟩ := h4 ad e
  exact ⟨g, o, rfl, hb, hlt, hl, fun j hj => hc j (Nat.lt_of_lt_of_le hj (Nat.mul_le_mul_right _ h1))⟩
theorem add_none (b o n : Nat) : (⟨b, o, none⟩ : Addr).add n = ⟨b, o + n, none⟩ := by unfold Addr.add; split <;> simp_all
theorem Rd.src {S E sz bt : Nat} {z : Value} (L : Lay S E sz bt z) {w : World} {base : Nat} {A : Option Addr} {es : List Value} (h : Rd w base A es) {m : Nat} (hl : es.length = m * sz) (h1 : ∀ u ∈ es, u.oneCell' = true) (c : Nat) : Src Tryz.prog sz S (.slice A m c) m es w := by
  by_cases hm : m = 0
  · subst hm
    obtain rfl : es = [] := List.eq_nil_of_length_eq_zero (by simpa using hl)
    cases A with
    | none => exact Src.ofNil w L.und c
    | some ad => exact Src.ofSlice w L.und ad 0 c [] (by simp) (fun j u e => by simp at e) (fun u hu => by cases hu)
  · have hp : 0 < es.length := by rw [hl]; exact Nat.mul_pos (by omega) L.pos
    obtain ⟨g, o, rfl, _, hc⟩ := h hp
    refine Src.ofSlice w L.und _ m c _ hl (fun j u e => ?_) h1
    rw [add_none]
    exact hc j u e
theorem Lies.app {w : World} {g o : Nat} {cs es : List Value} (h : Lies w g o cs) (h2 : Lies w g (o + cs.length) es) : Lies w g o (cs ++ es) := fun j u e => by
  by_cases hj : j < cs.length
  · rw [List.getElem?_append_left hj] at e
    exact h j u e
  · rw [List.getElem?_append_right (by omega)] at e
    have := h2 _ u e
    rwa [show o + cs.length + (j - cs.length) = o + j by omega] at this
theorem some_setCells (b : Nat) : ∀ (vs : List Value) (o : Nat) (w : World) (x : Addr), (w.cell? x).isSome = true → ((w.setCells b o vs).cell? x).isSome = true
  | [], _, _, _, h => h
  | v :: r, o, w, x, h => by
    refine some_setCells b r (o + 1) _ x ?_
    by_cases e : (⟨b, o, none⟩ : Addr) = x
    · subst e
      obtain ⟨u, hu⟩ := Option.isSome_iff_exists.1 h
      rw [World.cell?_setCell_same _ _ _ hu]; rfl
    · rw [World.cell?_setCell_other _ _ _ _ (fun e' => e (by rw [e']))]; exact h
theorem size_setCells' (b : Nat) : ∀ (vs : List Value) (o : Nat) (w : World), (w.setCells b o vs).heap.size = w.heap.size
  | [], _, _ => rfl
  | v :: r, o, w => by rw [World.setCells, size_setCells' b r]; simp [World.setCell]
theorem row_append {S E sz bt : Nat} {z : Value} (L : Lay S E sz bt z) {w : World} {base n : Nat} {s : Value} {cs : List Value} (h : Row w base sz s n cs) (h1c : ∀ u ∈ cs, u.oneCell' = true) (hbase : base ≤ w.heap.size) {b2 : Nat} {A : Option Addr} {m : Nat} {es : List Value} (c : Nat) (hr : Rd w b2 A es) (hm : es.length = m * sz) (h1e : ∀ u ∈ es, u.oneCell' = true) (hlen : n + m ≤ 1000000) (ty : TypeId) :
    ∃ s' w', (Builtin.append_ #[S, S] ty #[s, .slice A m c]).run Tryz.prog w = .ok s' w' ∧ Row w' base sz s' (n + m) (cs ++ es) ∧ Turns (fun k => s.ownBlock = some k) w w' ∧ (s'.ownBlock = s.ownBlock ∨ s'.ownBlock = some w.heap.size) := by
  obtain ⟨i, hi, hz, hsz, hby⟩ := L.info
  have hf := L.few
  have hsrow := h
  obtain ⟨B, cap, rfl, h0, h1, h2, h3, h4⟩ := h
  have hs := hr.src L hm h1e c
  rw [← hsz] at hs
  have hlen2 : (cs ++ es).length = (n + m) * sz := by rw [List.length_append, h0, hm, Nat.add_mul]
  by_cases hE : m = 0
  · subst hE
    obtain rfl : es = [] := List.eq_nil_of_length_eq_zero (by simpa using hm)
    refine ⟨_, w, run_append_nothing w S S ty E i L.und hi B n cap h1 _ hs, ?_, Turns.refl _ _, .inl rfl⟩
    rw [List.append_nil]
    exact hsrow
  · have hmax : n + m ≤ maxLen := by unfold maxLen; omega
    by_cases hroom : n + m ≤ cap
    · cases B with
      | none => have := h3 rfl; omega
      | some ad =>
        obtain ⟨g, o, rfl, hb, hlt, hl, hc⟩ := h4 ad rfl
        have hin : ∀ j, j < es.length → n * sz + j < cap * sz := fun j hj => by
          have : (n + m) * sz ≤ cap * sz := Nat.mul_le_mul_right _ hroom
          rw [Nat.add_mul] at this
          omega
        have hrun := run_append_room_src (P := Tryz.prog) w S S ty E i L.und hi g o n cap _ m es hs hroom
          (fun j hj => by rw [hsz, Nat.add_assoc]; exact (hc _ (hin j hj)).1) (fun j hj => by rw [hsz, Nat.add_assoc]; exact (hc _ (hin j hj)).2)
        rw [hsz] at hrun
        refine ⟨_, _, hrun, ?_, Turns.setCells (S := fun k => (Value.slice (some ⟨g, o, none⟩) n cap).ownBlock = some k) (Turns.refl _ w) g rfl _ _, .inl rfl⟩
        refine ⟨some ⟨g, o, none⟩, cap, rfl, hlen2, hroom, h2, (fun e => by cases e), fun ad e => ?_⟩
        cases e
        refine ⟨g, o, rfl, hb, by rw [size_setCells']; exact hlt, ?_, fun j hj => ⟨some_setCells _ _ _ _ _ (hc j hj).1, by rw [World.frozen?_setCells]; exact (hc j hj).2⟩⟩
        refine Lies.app (fun j u e => ?_) (fun j u e => ?_)
        · have hj : j < cs.length := (List.getElem?_eq_some_iff.1 e).1
          rw [World.cell?_setCells_out _ _ _ _ _ (fun _ _ => .inl (by show o + j < _; omega))]
          exact hl j u e
        · have hj : j < es.length := (List.getElem?_eq_some_iff.1 e).1
          have hin2 := World.cell?_setCells_in g es (o + n * sz) w (fun j hj => by rw [Nat.add_assoc]; exact (hc _ (hin j hj)).1) j hj
          rw [h0, hin2]
          exact (List.getElem?_eq_getElem hj).symm.trans e
    · have hold : (Builtin.firstCells i.size n (.slice B n cap)).run Tryz.prog w.drew = .ok cs.toArray w.drew := by
        have hr2 : Rd w.drew w.heap.size B cs := Row.rd (w := w.drew) (base := base) (cap := cap) hsrow
        have := (hr2.src L h0 h1c cap).cells
        rwa [hsz]
      have hge := grownCap_ge w (n + m) cap E
      have hcm := grownCap_le_maxLen w (n + m) cap E hmax
      have hbig : (n + m) * bt ≤ 140737488355328 := by
        have := Nat.mul_le_mul hlen hf
        omega
      have hrun := run_append_grow_src (P := Tryz.prog) w S S ty E i z L.und hi hz B n cap cs hold _ m es hs (by omega) (by omega) (growslice_fits (by omega) (by rw [hby]; exact hbig))
      have hnew := heap_alloc_new w.drew (.cells ((cs ++ es).toArray ++ Builtin.zeroCells z.cells (grownCap w (n + m) cap E - (n + m))) E)
      rw [show w.drew.heap.size = w.heap.size from rfl] at hnew
      refine ⟨_, _, hrun, ?_, ((Turns.refl _ w).drew).alloc _, .inr rfl⟩
      generalize grownCap w (n + m) cap E = cc at *
      have hzs : (Builtin.zeroCells z.cells (cc - (n + m))).size = (cc - (n + m)) * sz := by rw [size_zeroCells, L.zc]
      refine ⟨_, cc, rfl, hlen2, hge, hcm, (fun e => by cases e), fun ad e => ?_⟩
      cases e
      refine ⟨w.heap.size, 0, rfl, hbase, by simp, fun j u e => ?_, fun j hj => ⟨?_, froz_row hnew _⟩⟩
      · have hj : j < (cs ++ es).length := (List.getElem?_eq_some_iff.1 e).1
        rw [cell_row hnew, Nat.zero_add]
        rw [Array.getElem?_append_left (by simpa using hj)]
        simpa using e
      · rw [cell_row hnew, Nat.zero_add]
        have : j < ((cs ++ es).toArray ++ Builtin.zeroCells z.cells (cc - (n + m))).size := by
          rw [Array.size_append, hzs, List.size_toArray, hlen2, ← Nat.add_mul, show n + m + (cc - (n + m)) = cc by omega]
          exact hj
        rw [Array.getElem?_eq_getElem this]; rfl
end Go.Proofs.YtpmafdggbeppcaaGreatDoor.S10
namespace Go.Proofs.YtpmafdggbeppcaaGreatDoor.S10
open Go.Proofs.YtpmafdggbeppcaaGreatDoor
open Go.RowKit
section
variable {w : World} {S E sz bt : Nat} {z : Value}
theorem wp_append_row (L : Lay S E sz bt z) {o : Oper} {a : Act} {K : Act → World → Prop} {Q : Exit → Act → World → Prop} (s x : Operand)
    (ho : o.op = .call { callee := .builtin .append, args := #[s, x], argTypes := #[S, S] }) {base n : Nat} {v : Value} {cs : List Value} (hs : a.eval s = v) (h : Row w base sz v n cs) (h1c : ∀ u ∈ cs, u.oneCell' = true) (hbase : base ≤ w.heap.size)
    {b2 : Nat} {A : Option Addr} {m : Nat} {es : List Value} (c : Nat) (hx : a.eval x = .slice A m c) (hr : Rd w b2 A es) (hm : es.length = m * sz) (h1e : ∀ u ∈ es, u.oneCell' = true) (hlen : n + m ≤ 1000000)
    (hK : ∀ v' w', Row w' base sz v' (n + m) (cs ++ es) → Turns (fun k => v.ownBlock = some k) w w' → (v'.ownBlock = v.ownBlock ∨ v'.ownBlock = some w.heap.size) → K (a.put o.dst v') w') : o.wp Tryz.prog a w K Q := by
  obtain ⟨v', w', hrun, h2, h3, h4⟩ := row_append L h h1c hbase c hr hm h1e hlen o.type
  unfold Oper.wp execOp
  simp only [ho, resolve, invoke, builtin, Sem.run_bind, Sem.run_pure, Result.andThen_ok, List.map_toArray, List.map_cons, List.map_nil, hs, hx, hrun]
  exact hK v' w' h2 h3 h4
theorem wpList_append_row (L : Lay S E sz bt z) {ops : Array Oper} {rest : List Oper} {o : Oper} {a : Act} {Q : Exit → Act → World → Prop} (hgd : o.guard = none) (s x : Operand)
    (ho : o.op = .call { callee := .builtin .append, args := #[s, x], argTypes := #[S, S] }) {base n : Nat} {v : Value} {cs : List Value} (hs : a.eval s = v) (h : Row w base sz v n cs) (h1c : ∀ u ∈ cs, u.oneCell' = true) (hbase : base ≤ w.heap.size)
    {b2 : Nat} {A : Option Addr} {m : Nat} {es : List Value} (c : Nat) (hx : a.eval x = .slice A m c) (hr : Rd w b2 A es) (hm : es.length = m * sz) (h1e : ∀ u ∈ es, u.oneCell' = true) (hlen : n + m ≤ 1000000)
    (hK : ∀ v' w', Row w' base sz v' (n + m) (cs ++ es) → Turns (fun k => v.ownBlock = some k) w w' → (v'.ownBlock = v.ownBlock ∨ v'.ownBlock = some w.heap.size) → wpList Tryz.prog ops Q rest (a.put o.dst v') w') : wpList Tryz.prog ops Q (o :: rest) a w :=
  wpList_plain hgd fun _ hK' => wp_append_row L s x ho hs h h1c hbase c hx hr hm h1e hlen fun v' w' h2 h3 h4 => hK' _ _ (hK v' w' h2 h3 h4)
theorem step_append_row (L : Lay S E sz bt z) {ops : Array Oper} {o : Oper} {a : Act} {K : Act → World → Prop} {Q : Exit → Act → World → Prop} {F : Prop} (hgd : o.guard = none) (s x : Operand)
    (ho : o.op = .call { callee := .builtin .append, args := #[s, x], argTypes := #[S, S] }) {base n : Nat} {v : Value} {cs : List Value} (hs : a.eval s = v) (h : Row w base sz v n cs) (h1c : ∀ u ∈ cs, u.oneCell' = true) (hbase : base ≤ w.heap.size)
    {b2 : Nat} {A : Option Addr} {m : Nat} {es : List Value} (c : Nat) (hx : a.eval x = .slice A m c) (hr : Rd w b2 A es) (hm : es.length = m * sz) (h1e : ∀ u ∈ es, u.oneCell' = true) (hlen : n + m ≤ 1000000)
    (hK : ∀ v' w', Row w' base sz v' (n + m) (cs ++ es) → Turns (fun k => v.ownBlock = some k) w w' → (v'.ownBlock = v.ownBlock ∨ v'.ownBlock = some w.heap.size) → K (a.put o.dst v') w') :
    if Region.wanted o (yielded ops a.tmps) = true then Oper.wp Tryz.prog o a w K Q else F := by
  have hw : Region.wanted o (yielded ops a.tmps) = true := by simp [Region.wanted, hgd]
  rw [if_pos hw]
  exact wp_append_row L s x ho hs h h1c hbase c hx hr hm h1e hlen hK
end
theorem info_of {E sz bt : Nat} {z : Value} (h : (Tryz.prog.info? E).map (fun i => (i.zero, i.size, i.bytes)) = some (some z, sz, bt)) : ∃ i, Tryz.prog.info? E = some i ∧ i.zero = some z ∧ i.size = sz ∧ i.bytes = bt := by
  cases e : Tryz.prog.info? E with
  | none => rw [e] at h; cases h
  | some i =>
    rw [e] at h
    simp at h
    exact ⟨i, rfl, h.1, h.2.1, h.2.2⟩
theorem layE : Lay 123 39 3 24 (.agg #[.int .i64 0, .int .u32 0, .int .u64 0]) := ⟨Tryz.underlying123, info_of (by kernel_rfl), rfl, by decide, by decide⟩
theorem layR : Lay 141 132 1 24 (.slice none 0 0) := ⟨Tryz.underlying141, info_of (by kernel_rfl), rfl, by decide, by decide⟩
theorem layO : Lay 132 230 3 24 (.agg #[.int .i64 0, .int .u32 0, .int .u64 0]) := ⟨Tryz.underlying132, info_of (by kernel_rfl), rfl, by decide, by decide⟩
structure Ent where
  t : Int
  k : Int
  z : Int
deriving DecidableEq
instance : Inhabited Ent := ⟨⟨0, 0, 0⟩⟩
def Ent.cs (e : Ent) : List Value := [.int .i64 e.t, .int .u32 e.k, .int .u64 e.z]
abbrev ag (e : Ent) : Value := .agg #[.int .i64 e.t, .int .u32 e.k, .int .u64 e.z]
def flat (D : List Ent) : List Value := D.flatMap Ent.cs
theorem flat_one (e : Ent) : flat [e] = [.int .i64 e.t, .int .u32 e.k, .int .u64 e.z] := rfl
theorem flat_app (D F : List Ent) : flat (D ++ F) = flat D ++ flat F := by simp [flat]
theorem flat_len (D : List Ent) : (flat D).length = D.length * 3 := by
  induction D with
  | nil => rfl
  | cons e r ih =>
    have : flat (e :: r) = e.cs ++ flat r := rfl
    rw [this, List.length_append, ih]
    simp [Ent.cs]
    omega
theorem flat_one' (D : List Ent) : ∀ u ∈ flat D, u.oneCell' = true := fun u hu => by
  simp only [flat, List.mem_flatMap] at hu
  obtain ⟨e, _, hu⟩ := hu
  simp [Ent.cs] at hu
  rcases hu with rfl | rfl | rfl <;> rfl
theorem flat_get : ∀ (D : List Ent) (i : Nat), i < D.length → (flat D)[i * 3]? = some (.int .i64 D[i]!.t) ∧ (flat D)[i * 3 + 1]? = some (.int .u32 D[i]!.k) ∧ (flat D)[i * 3 + 2]? = some (.int .u64 D[i]!.z)
  | [], i, h => by simp at h
  | e :: r, 0, _ => ⟨rfl, rfl, rfl⟩
  | e :: r, i + 1, h => by
    have hr := flat_get r i (by simpa using h)
    have e3 : flat (e :: r) = .int .i64 e.t :: .int .u32 e.k :: .int .u64 e.z :: flat r := rfl
    have e4 : (e :: r)[i + 1]! = r[i]! := by simp
    rw [e3, e4, show (i + 1) * 3 = i * 3 + 3 by omega, show i * 3 + 3 + 1 = i * 3 + 1 + 3 by omega, show i * 3 + 3 + 2 = i * 3 + 2 + 3 by omega]
    exact hr
theorem Lies.ent {w : World} {g o : Nat} {D : List Ent} (h : Lies w g o (flat D)) {i : Nat} (hi : i < D.length) :
    w.cell? ⟨g, o + i * 3, none⟩ = some (.int .i64 D[i]!.t) ∧ w.cell? ⟨g, o + i * 3 + 1, none⟩ = some (.int .u32 D[i]!.k) ∧ w.cell? ⟨g, o + i * 3 + 2, none⟩ = some (.int .u64 D[i]!.z) := by
  obtain ⟨h0, h1, h2⟩ := flat_get D i hi
  exact ⟨h _ _ h0, by have := h _ _ h1; rwa [← Nat.add_assoc] at this, by have := h _ _ h2; rwa [← Nat.add_assoc] at this⟩
theorem Rd.ent {w : World} {base : Nat} {A : Option Addr} {D : List Ent} (h : Rd w base A (flat D)) {i : Nat} (hi : i < D.length) : ∃ g o, A = some ⟨g, o, none⟩ ∧ g < base ∧
    w.cell? ⟨g, o + i * 3, none⟩ = some (.int .i64 D[i]!.t) ∧ w.cell? ⟨g, o + i * 3 + 1, none⟩ = some (.int .u32 D[i]!.k) ∧ w.cell? ⟨g, o + i * 3 + 2, none⟩ = some (.int .u64 D[i]!.z) := by
  obtain ⟨g, o, e, hg, hl⟩ := h (by rw [flat_len]; omega)
  obtain ⟨h0, h1, h2⟩ := hl.ent hi
  exact ⟨g, o, e, hg, h0, h1, h2⟩
theorem neqO (d e : Ent) (w : World) : (binOp .neq 230 (ag d) (ag e)).run Tryz.prog w = .ok (.bool (!decide (d = e))) w := by
  obtain ⟨t, k, z⟩ := d; obtain ⟨t', k', z'⟩ := e
  simp [go_sem, Tryz.underlying230]
  by_cases h1 : t = t' <;> by_cases h2 : k = k' <;> by_cases h3 : z = z' <;> simp [h1, h2, h3]
end Go.Proofs.YtpmafdggbeppcaaGreatDoor.S10
namespace Go.Proofs.YtpmafdggbeppcaaGreatDoor.S10
set_option maxRecDepth 100000
set_option maxHeartbeats 16000000
open Go.Proofs.YtpmafdggbeppcaaGreatDoor
open Go.RowKit
theorem other_any (e : Ent) (w : World) : Calls Tryz.prog 92 #[ag e] w fun e' w' => e' = .returned (ag e) ∧ Below w.heap.size w w' := by
  go_enter Tryz.func92, Tryz.ntmps92
  go_wp2
  exact bodyPost_ret (v := ag e) (by simp [results, Tryz.results92, go_sem]) rfl ⟨rfl, ((Below.refl _ w).alloc (Nat.le_refl _) _).alloc (by simp) _⟩
theorem clip_any (A : Option Addr) (n cap : Nat) (w : World) (h : n ≤ cap) (hc : cap ≤ 9223372036854775807) : Calls Tryz.prog 125 #[.slice A n cap] w fun e w' => e = .returned (.slice A n n) ∧ w = w' := by
  go_enter Tryz.func125, Tryz.ntmps125
  go_wp2
  go_ret
  exact ⟨by simp, rfl⟩
theorem below1 (w : World) (o : Obj) : Below w.heap.size w (w.alloc o) := (Below.refl _ w).alloc (Nat.le_refl _) o
theorem Row.alloc {w : World} {base sz n : Nat} {s : Value} {cs : List Value} (h : Row w base sz s n cs) (o : Obj) : Row (w.alloc o) base sz s n cs := h.new (below1 w o)
theorem rd_one (w : World) (d : Ent) (T : TypeId) : Rd (w.alloc (.cells #[.int .i64 d.t, .int .u32 d.k, .int .u64 d.z] T)) (w.heap.size + 1) (some ⟨w.heap.size, 0, none⟩) (flat [d]) := fun _ => by
  refine ⟨w.heap.size, 0, rfl, by omega, fun j u e => ?_⟩
  have hnew := heap_alloc_new w (.cells #[.int .i64 d.t, .int .u32 d.k, .int .u64 d.z] T)
  rw [cell_row hnew, Nat.zero_add]
  simpa [flat_one] using e
theorem rd_one1 (w : World) (v : Value) (T : TypeId) : Rd (w.alloc (.cells #[v] T)) (w.heap.size + 1) (some ⟨w.heap.size, 0, none⟩) [v] := fun _ => by
  refine ⟨w.heap.size, 0, rfl, by omega, fun j u e => ?_⟩
  have hnew := heap_alloc_new w (.cells #[v] T)
  rw [cell_row hnew, Nat.zero_add]
  simpa using e
theorem take_snoc {α : Type} [Inhabited α] {D : List α} {k : Nat} (h : k < D.length) : D.take (k + 1) = D.take k ++ [D[k]!] := by
  rw [List.take_add_one, List.getElem?_eq_getElem h, getElem!_pos D k h]; rfl
theorem flat_snoc {D : List Ent} {k : Nat} (h : k < D.length) : flat (D.take (k + 1)) = flat (D.take k) ++ flat [D[k]!] := by rw [take_snoc h, flat_app]
abbrev RowE (w : World) (base : Nat) (s : Value) (D : List Ent) : Prop := Row w base 3 s D.length (flat D)
theorem others_any {w : World} {base : Nat} {A : Option Addr} {D : List Ent} (c : Nat) (hr : Rd w base A (flat D)) (hbase : base ≤ w.heap.size) (hlen : D.length ≤ 1000) :
    Calls Tryz.prog 43 #[.slice A D.length c] w fun e w' => ∃ s, e = .returned s ∧ RowE w' w.heap.size s D ∧ (s = .slice none 0 0 ∨ 0 < D.length) ∧ Below w.heap.size w w' := by
  have HR := Lib.hid hr; have HBS := Lib.hid hbase
  clear hr hbase
  obtain ⟨n, hn⟩ : ∃ n, n = D.length := ⟨_, rfl⟩
  rw [← hn]
  have HN := Lib.hid hn
  have hn6 : n ≤ 1000 := by omega
  clear hn hlen
  go_enter Tryz.func43, Tryz.ntmps43
  go_wp2_with fail
  go_loopg [3, 4] n (fun q s3 s4 wx => ∃ k : Nat, k ≤ n ∧ q = n - k ∧ s4 = .int .i64 (k : Int) ∧ Below w.heap.size w wx ∧ Row wx w.heap.size 3 s3 k (flat (D.take k)) ∧ (s3 = .slice none 0 0 ∨ 0 < k))
  case atStart => exact ⟨0, by omega, rfl, rfl, Below.refl _ _, row_nil _ _ _, Or.inl rfl⟩
  case round =>
    obtain ⟨k, hk, rfl, rfl, hb, hrow, hnn⟩ := hrel
    have HB := Lib.hid hb; have HROW := Lib.hid hrow; have HNN := Lib.hid hnn
    clear hb hrow hnn
    by_cases hkn : k < n
    · obtain ⟨lb', lo, rfl, hlb, c0, c1, c2⟩ := (HR.out.below HB.out HBS.out).ent (i := k) (by have := HN.out; omega)
      have hsn := flat_snoc (D := D) (k := k) (by have := HN.out; omega)
      generalize hd : D[k]! = d at *
      have HSN := Lib.hid hsn
      clear hd hsn
      go_wp2_with (first
        | (go_at_call 92; refine (other_any d _).mono ?_; rintro e w1 ⟨rfl, hb1⟩; (have HB1 := Lib.hid hb1); (clear hb1))
        | (at_builtin; refine wpList_append_row layO rfl _ _ rfl rfl ((HROW.out.new HB1.out).alloc _) (flat_one' _) (by have := HB.out.size; have := HB1.out.size; simp; omega) 1 rfl (rd_one w1 d 230) rfl (flat_one' _) (by omega) ?_; intro v' w2 hr2 ht2 _; (rw [← HSN.out] at hr2); (have HR2 := Lib.hid hr2); (have HT2 := Lib.hid ht2); (clear hr2 ht2)))
      go_roundg (n - (k + 1))
      case measure => omega
      case rel =>
        refine ⟨k + 1, by omega, rfl, by go_num, ?_, HR2.out, Or.inr (by omega)⟩
        have hb2 : Below w.heap.size w1 w2 := ((Turns.refl _ w1).alloc _ |>.trans HT2.out (fun k _ e => e)).below (by have := HB.out.size; have := HB1.out.size; omega) (fun k hk e => by have := (HROW.out.lt k e).1; omega)
        exact HB.out.trans ((HB1.out.mono HB.out.size).trans hb2)
    · obtain rfl : k = n := by omega
      go_wp2_with fail
      go_ret
      refine ⟨_, rfl, ?_, HNN.out, HB.out⟩
      have := HROW.out
      rw [HN.out, List.take_length] at this
      exact this
def Wr (w : World) (g o m : Nat) : Prop := ∀ j, j < m → ∃ v, w.cell? ⟨g, o + j, none⟩ = some v ∧ w.frozen? ⟨g, o + j, none⟩ = false
theorem Wr.set {w : World} {g o m : Nat} (h : Wr w g o m) (x : Nat) (v : Value) : Wr (w.setCell ⟨g, x, none⟩ v) g o m := by
  intro j hj
  obtain ⟨u, hu, hf⟩ := h j hj
  by_cases e : o + j = x
  · subst e
    exact ⟨v, World.cell?_setCell_same _ _ _ hu, (World.frozen?_setCell _ _ _ _).trans hf⟩
  · exact ⟨u, (World.cell?_setCell_other _ _ _ _ (by simp; (try omega))).trans hu, (World.frozen?_setCell _ _ _ _).trans hf⟩
end Go.Proofs.YtpmafdggbeppcaaGreatDoor.S10
