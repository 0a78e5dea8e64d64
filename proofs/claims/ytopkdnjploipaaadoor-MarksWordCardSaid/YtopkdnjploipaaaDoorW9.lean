import Derived.Test.YtopkdnjploipaaaDoorW8
namespace Go.Proofs.YtopkdnjploipaaaDoor
open Go.RowKit Go.Sort Go.Lib

theorem ret_int {k : IntKind} {a b : Int} (h : a = b) : Ending.returned (.int k a) = .returned (.int k b) := by rw [h]
theorem ret_bool {a b : Bool} (h : a = b) : Ending.returned (.bool a) = .returned (.bool b) := by rw [h]
def putN (l q : Bool) (h : Int) : Int := (if 0 ≤ h ∧ h ≤ 63 then 4 * (h + 1) else 0) + (if l then 1 else 0) + (if q then 2 else 0)
theorem or_low (a : Nat) (ha : a ≤ 3) (h : Int) (h0 : 0 ≤ h) (h1 : h ≤ 63) : bits .or .u64 (a : Int) ((h + 1) * 4) = (h + 1) * 4 + a := by
  obtain ⟨n, rfl⟩ := Int.eq_ofNat_of_zero_le h0
  have e : ((n : Int) + 1) * 4 = (((n + 1) * 4 : Nat) : Int) := by omega
  rw [e, bits_or_u64_nat a ((n + 1) * 4) (by omega) (by omega), Nat.or_comm, show (n + 1) * 4 = 2 ^ 2 * (n + 1) by omega, ← Nat.two_pow_add_eq_or_of_lt (by omega)]
  omega
theorem put_any (l q : Bool) (h : Int) (hh : -9223372036854775808 ≤ h) (hh2 : h ≤ 9223372036854775807) (w : World) :
    Calls Tryd.prog 8 #[.agg #[.bool l, .bool q, .int .i64 h]] w fun e w' => e = .returned (.int .u64 (putN l q h)) ∧ Below w.heap.size w w' := by
  have b1 : bits .or .u64 0 1 = 1 := by decide
  have b2 : bits .or .u64 0 2 = 2 := by decide
  have b3 : bits .or .u64 1 2 = 3 := by decide
  by_cases c1 : 0 ≤ h
  · by_cases c2 : h < 64
    · have o0 : bits .or .u64 0 ((h + 1) * 4) = (h + 1) * 4 + 0 := or_low 0 (by omega) h c1 (by omega)
      have o1 : bits .or .u64 1 ((h + 1) * 4) = (h + 1) * 4 + 1 := or_low 1 (by omega) h c1 (by omega)
      have o2 : bits .or .u64 2 ((h + 1) * 4) = (h + 1) * 4 + 2 := or_low 2 (by omega) h c1 (by omega)
      have o3 : bits .or .u64 3 ((h + 1) * 4) = (h + 1) * 4 + 3 := or_low 3 (by omega) h c1 (by omega)
      cases l <;> cases q
      all_goals
        go_enter Tryd.func8, Tryd.ntmps8
        go_wp2
        go_ret
        exact ⟨ret_int (by unfold putN; rw [if_pos ⟨c1, by omega⟩]; simp; try omega), (Below.refl _ _).alloc (Nat.le_refl _) _⟩
    · cases l <;> cases q
      all_goals
        go_enter Tryd.func8, Tryd.ntmps8
        go_wp2
        go_ret
        exact ⟨ret_int (by unfold putN; rw [if_neg (by omega)]; rfl), (Below.refl _ _).alloc (Nat.le_refl _) _⟩
  · cases l <;> cases q
    all_goals
      go_enter Tryd.func8, Tryd.ntmps8
      go_wp2
      go_ret
      exact ⟨ret_int (by unfold putN; rw [if_neg (by omega)]; rfl), (Below.refl _ _).alloc (Nat.le_refl _) _⟩
theorem rput_any (l q : Bool) (h : Int) (hh : -9223372036854775808 ≤ h) (hh2 : h ≤ 9223372036854775807) (w : World) :
    Calls Tryd.prog 9 #[.agg #[.bool l, .bool q, .int .i64 h]] w fun e w' => e = .returned (.int .u64 (putN l q h)) ∧ Below w.heap.size w w' := by
  by_cases c1 : 0 ≤ h
  · by_cases c2 : h ≤ 63
    · cases l <;> cases q
      all_goals
        go_enter Tryd.func9, Tryd.ntmps9
        go_wp2
        go_ret
        exact ⟨ret_int (by unfold putN; rw [if_pos ⟨c1, by omega⟩]; simp; try omega), (Below.refl _ _).alloc (Nat.le_refl _) _⟩
    · cases l <;> cases q
      all_goals
        go_enter Tryd.func9, Tryd.ntmps9
        go_wp2
        go_ret
        exact ⟨ret_int (by unfold putN; rw [if_neg (by omega)]; rfl), (Below.refl _ _).alloc (Nat.le_refl _) _⟩
  · cases l <;> cases q
    all_goals
      go_enter Tryd.func9, Tryd.ntmps9
      go_wp2
      go_ret
      exact ⟨ret_int (by unfold putN; rw [if_neg (by omega)]; rfl), (Below.refl _ _).alloc (Nat.le_refl _) _⟩
def headN (u : Nat) : Int := if 1 ≤ u / 4 ∧ u / 4 ≤ 64 then ((u / 4 : Nat) : Int) - 1 else -1
def asV (u : Nat) : Value := .agg #[.bool (bitB u 0), .bool (bitB u 1), .int .i64 (headN u)]
theorem bitB_eq (u n d : Nat) (hd : 2 ^ n = d) (b : Bool) (h : (u / d % 2 == 1) = b) : bitB u n = b := by
  subst hd; subst h; unfold bitB; by_cases h : u / 2 ^ n % 2 = 1 <;> simp [h]
set_option maxHeartbeats 1000000 in
theorem as_any (u : Nat) (hu : u < 18446744073709551616) (w : World) :
    Calls Tryd.prog 11 #[.int .u64 u] w fun e w' => e = .returned (asV u) ∧ Below w.heap.size w w' := by
  have p0 : bits .and .u64 (u : Int) 1 = ((u / 1 % 2 * 1 : Nat) : Int) := and_pow u 0 hu (by decide)
  have p1 : bits .and .u64 (u : Int) 2 = ((u / 2 % 2 * 2 : Nat) : Int) := and_pow u 1 hu (by decide)
  have c0 : u / 1 % 2 = 0 ∨ u / 1 % 2 = 1 := by omega
  have c1 : u / 2 % 2 = 0 ∨ u / 2 % 2 = 1 := by omega
  rcases c0 with c0 | c0 <;> rcases c1 with c1 | c1
  all_goals
    rw [c0] at p0
    rw [c1] at p1
    have q0 := bitB_eq u 0 1 rfl _ rfl
    have q1 := bitB_eq u 1 2 rfl _ rfl
    rw [c0] at q0
    rw [c1] at q1
    simp at p0 p1
    have Q0 := Lib.hid q0
    have Q1 := Lib.hid q1
    clear q0 q1 c0 c1
    by_cases h1 : 1 ≤ u / 4
    · by_cases h2 : u / 4 ≤ 64
      · go_enter Tryd.func11, Tryd.ntmps11
        go_wp2
        refine bodyPost_ret (v := .agg #[.bool _, .bool _, .int .i64 _]) (by simp [results, Tryd.results11, go_sem]; exact ⟨rfl, rfl, rfl⟩) rfl ⟨?_, (Below.refl _ _).alloc (Nat.le_refl _) _⟩
        unfold asV headN
        rw [Q0.out, Q1.out, if_pos ⟨h1, h2⟩]
        rfl
      · go_enter Tryd.func11, Tryd.ntmps11
        go_wp2
        refine bodyPost_ret (v := .agg #[.bool _, .bool _, .int .i64 _]) (by simp [results, Tryd.results11, go_sem]; exact ⟨rfl, rfl, rfl⟩) rfl ⟨?_, (Below.refl _ _).alloc (Nat.le_refl _) _⟩
        unfold asV headN
        rw [Q0.out, Q1.out, if_neg (by omega)]
        rfl
    · go_enter Tryd.func11, Tryd.ntmps11
      go_wp2
      refine bodyPost_ret (v := .agg #[.bool _, .bool _, .int .i64 _]) (by simp [results, Tryd.results11, go_sem]; exact ⟨rfl, rfl, rfl⟩) rfl ⟨?_, (Below.refl _ _).alloc (Nat.le_refl _) _⟩
      unfold asV headN
      rw [Q0.out, Q1.out, if_neg (by omega)]
      rfl
end Go.Proofs.YtopkdnjploipaaaDoor
