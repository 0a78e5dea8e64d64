import Derived.Test.YtopkdnjploipaaaDoorW6
namespace Go.Proofs.YtopkdnjploipaaaDoor
open Go.RowKit Go.Sort Go.Lib

theorem has_pow (u k : Nat) (hu : u < 18446744073709551616) (hk : 2 ^ k < 18446744073709551616) : has (u : Int) ((2 ^ k : Nat) : Int) = bitB u k := by
  unfold has bitB
  rw [and_pow u k hu hk]
  have h : u / 2 ^ k % 2 = 0 ∨ u / 2 ^ k % 2 = 1 := by omega
  have hp : 0 < 2 ^ k := Nat.two_pow_pos k
  rcases h with h | h
  · rw [h]; simp
  · have hz : ((2 ^ k : Nat) : Int) ≠ 0 := by omega
    rw [h, Nat.one_mul, bne_iff_ne.2 hz]; rfl
theorem has_zero (u : Nat) (hu : u < 18446744073709551616) : has (u : Int) 0 = false := by
  have := bits_and_u64_nat u 0 hu (by omega)
  unfold has
  rw [show ((0 : Nat) : Int) = (0 : Int) from rfl] at this
  rw [this]
  simp
theorem rst_step (u k : Nat) (hu : u < 18446744073709551616) (hk : k ≤ 3) : (if has (u : Int) ((2 ^ k : Nat) : Int) then bits .andNot .u64 ((u - u % 2 ^ k : Nat) : Int) ((2 ^ k : Nat) : Int) else ((u - u % 2 ^ k : Nat) : Int)) = ((u - u % 2 ^ (k + 1) : Nat) : Int) := by
  have h : k = 0 ∨ k = 1 ∨ k = 2 ∨ k = 3 := by omega
  have hp : 2 ^ k < 18446744073709551616 := by rcases h with rfl | rfl | rfl | rfl <;> decide
  rw [has_pow u k hu hp, andNot_eq _ _ (by omega) hp, and_pow _ k (by omega) hp]
  unfold bitB
  rcases h with rfl | rfl | rfl | rfl
  all_goals
    simp only [Nat.reducePow, Nat.reduceAdd, decide_eq_true_eq]
    split <;> omega
theorem rst4 (u : Nat) (hu : u < 18446744073709551616) : rstK u m4 4 = ((u - u % 16 : Nat) : Int) := by
  have e0 : (u : Int) = ((u - u % 2 ^ 0 : Nat) : Int) := by rw [show 2 ^ 0 = 1 from rfl]; omega
  have s0 := rst_step u 0 hu (by omega)
  have s1 := rst_step u 1 hu (by omega)
  have s2 := rst_step u 2 hu (by omega)
  have s3 := rst_step u 3 hu (by omega)
  rw [← e0] at s0
  show (if has (u : Int) 8 then bits .andNot .u64 (if has (u : Int) 4 then bits .andNot .u64 (if has (u : Int) 2 then bits .andNot .u64 (if has (u : Int) 1 then bits .andNot .u64 (u : Int) 1 else (u : Int)) 2 else (if has (u : Int) 1 then bits .andNot .u64 (u : Int) 1 else (u : Int))) 4 else (if has (u : Int) 2 then bits .andNot .u64 (if has (u : Int) 1 then bits .andNot .u64 (u : Int) 1 else (u : Int)) 2 else (if has (u : Int) 1 then bits .andNot .u64 (u : Int) 1 else (u : Int)))) 8 else _) = _
  have s0' : (if has (u : Int) 1 then bits .andNot .u64 (u : Int) 1 else (u : Int)) = ((u - u % 2 : Nat) : Int) := s0
  have s1' : (if has (u : Int) 2 then bits .andNot .u64 ((u - u % 2 : Nat) : Int) 2 else ((u - u % 2 : Nat) : Int)) = ((u - u % 4 : Nat) : Int) := s1
  have s2' : (if has (u : Int) 4 then bits .andNot .u64 ((u - u % 4 : Nat) : Int) 4 else ((u - u % 4 : Nat) : Int)) = ((u - u % 8 : Nat) : Int) := s2
  have s3' : (if has (u : Int) 8 then bits .andNot .u64 ((u - u % 8 : Nat) : Int) 8 else ((u - u % 8 : Nat) : Int)) = ((u - u % 16 : Nat) : Int) := s3
  rw [s0', s1', s2']
  refine Eq.trans ?_ s3'
  congr 1
  show (if has (u : Int) 4 then bits .andNot .u64 (if has (u : Int) 2 then bits .andNot .u64 (if has (u : Int) 1 then bits .andNot .u64 (u : Int) 1 else (u : Int)) 2 else (if has (u : Int) 1 then bits .andNot .u64 (u : Int) 1 else (u : Int))) 4 else (if has (u : Int) 2 then bits .andNot .u64 (if has (u : Int) 1 then bits .andNot .u64 (u : Int) 1 else (u : Int)) 2 else (if has (u : Int) 1 then bits .andNot .u64 (u : Int) 1 else (u : Int)))) = _
  rw [s0', s1', s2']
theorem rst2 (u : Nat) (hu : u < 18446744073709551616) : rstK u m2 4 = ((u - u % 4 : Nat) : Int) := by
  have e0 : (u : Int) = ((u - u % 2 ^ 0 : Nat) : Int) := by rw [show 2 ^ 0 = 1 from rfl]; omega
  have s0 := rst_step u 0 hu (by omega)
  have s1 := rst_step u 1 hu (by omega)
  rw [← e0] at s0
  have hz := has_zero u hu
  have s0' : (if has (u : Int) 1 then bits .andNot .u64 (u : Int) 1 else (u : Int)) = ((u - u % 2 : Nat) : Int) := s0
  have s1' : (if has (u : Int) 2 then bits .andNot .u64 ((u - u % 2 : Nat) : Int) 2 else ((u - u % 2 : Nat) : Int)) = ((u - u % 4 : Nat) : Int) := s1
  have r2 : rstK u m2 2 = ((u - u % 4 : Nat) : Int) := by
    show (if has (u : Int) 2 then bits .andNot .u64 (if has (u : Int) 1 then bits .andNot .u64 (u : Int) 1 else (u : Int)) 2 else (if has (u : Int) 1 then bits .andNot .u64 (u : Int) 1 else (u : Int))) = _
    rw [s0', s1']
  rw [rstK, if_neg (by show ¬ has (u : Int) 0 = true; simp [hz]), rstK, if_neg (by show ¬ has (u : Int) 0 = true; simp [hz]), r2]

def lastOf (s : ByteArray) (r : Nat) : Option ByteArray := if r = 0 then none else some (cnt s r)
def muTxt (u : Nat) : ByteArray := txt (nmsK u m2 sMu 4) (lastOf sEmpty (u - u % 4))
def onTxt (u : Nat) : ByteArray := txt (nmsK u m4 sOn 4) (lastOf sEmpty (u - u % 16))
def rwTxt (u : Nat) : ByteArray := txt (nmsK u m4 sRw 4) (lastOf ⟨#[114]⟩ (u / 16))
theorem lastOf_zero (s : ByteArray) : lastOf s 0 = none := rfl
theorem lastOf_pos (s : ByteArray) (r : Nat) (h : 1 ≤ r) : lastOf s r = some (cnt s r) := by unfold lastOf; rw [if_neg (by omega)]

set_option maxHeartbeats 1000000 in
theorem mutex_any (u : Nat) (hu : u < 18446744073709551616) (w : World) (hT : Tabs w) :
    Calls Tryd.prog 18 #[.int .u64 u] w fun e w' => e = .returned (.string (muTxt u)) ∧ Below w.heap.size w w' := by
  have hn := named_any 0 0 (.inl ⟨rfl, rfl⟩) u w (by omega) (by omega) m2 sMu hT.mu.1 hT.mu.2 hT.size
  rw [rst2 u hu] at hn
  unfold muTxt
  have hr : u - u % 4 < 18446744073709551616 := by omega
  generalize u - u % 4 = r at *
  have HN := Lib.hid hn
  clear hn
  by_cases h0 : r = 0
  · subst h0
    go_enter Tryd.func18, Tryd.ntmps18
    go_wp2_with (first
      | (go_at_call 25; refine HN.out.mono ?_; rintro e w' ⟨v, rfl, hown, hb⟩)
      | (go_at_call 27; refine (counted_none _ _).mono ?_; rintro e w2 ⟨rfl, rfl⟩)
      | (go_at_call 26; refine (tail0 u m2 sMu sMu_size w.heap.size v _ hown hb.size).mono ?_; rintro e w3 ⟨rfl, hb3⟩))
    go_ret
    exact ⟨rfl, hb.trans hb3⟩
  · go_enter Tryd.func18, Tryd.ntmps18
    go_wp2_with (first
      | (go_at_call 25; refine HN.out.mono ?_; rintro e w1 ⟨v, rfl, hown, hb⟩)
      | (go_at_call 27; refine (counted_some _ (by decide) r (by omega) hr _ ((hT.below hb).pow)).mono ?_; rintro e w2 ⟨rfl, hb2⟩)
      | (go_at_call 26; refine (tail1 u m2 sMu sMu_size sEmpty (by decide) r hr w.heap.size v _ (hown.kept (row := none) ⟨hb2.os, hb2.tape, hb2.output, hb2.size, fun k hk _ => hb2.block k hk⟩ (by cases v.ownBlock <;> simp)) (Nat.le_trans hb.size hb2.size)).mono ?_; rintro e w3 ⟨rfl, hb3⟩))
    go_ret
    rw [lastOf_pos _ _ (by omega)]
    exact ⟨rfl, (hb.trans (hb2.mono hb.size)).trans hb3⟩
set_option maxHeartbeats 1000000 in
theorem once_any (u : Nat) (hu : u < 18446744073709551616) (w : World) (hT : Tabs w) :
    Calls Tryd.prog 22 #[.int .u64 u] w fun e w' => e = .returned (.string (onTxt u)) ∧ Below w.heap.size w w' := by
  have hn := named_any 2 16 (.inr (.inr ⟨rfl, rfl⟩)) u w (by omega) (by omega) m4 sOn hT.on.1 hT.on.2 hT.size
  rw [rst4 u hu] at hn
  unfold onTxt
  have hr : u - u % 16 < 18446744073709551616 := by omega
  generalize u - u % 16 = r at *
  have HN := Lib.hid hn
  clear hn
  by_cases h0 : r = 0
  · subst h0
    go_enter Tryd.func22, Tryd.ntmps22
    go_wp2_with (first
      | (go_at_call 25; refine HN.out.mono ?_; rintro e w' ⟨v, rfl, hown, hb⟩)
      | (go_at_call 27; refine (counted_none _ _).mono ?_; rintro e w2 ⟨rfl, rfl⟩)
      | (go_at_call 26; refine (tail0 u m4 sOn sOn_size w.heap.size v _ hown hb.size).mono ?_; rintro e w3 ⟨rfl, hb3⟩))
    go_ret
    exact ⟨rfl, hb.trans hb3⟩
  · go_enter Tryd.func22, Tryd.ntmps22
    go_wp2_with (first
      | (go_at_call 25; refine HN.out.mono ?_; rintro e w1 ⟨v, rfl, hown, hb⟩)
      | (go_at_call 27; refine (counted_some _ (by decide) r (by omega) hr _ ((hT.below hb).pow)).mono ?_; rintro e w2 ⟨rfl, hb2⟩)
      | (go_at_call 26; refine (tail1 u m4 sOn sOn_size sEmpty (by decide) r hr w.heap.size v _ (hown.kept (row := none) ⟨hb2.os, hb2.tape, hb2.output, hb2.size, fun k hk _ => hb2.block k hk⟩ (by cases v.ownBlock <;> simp)) (Nat.le_trans hb.size hb2.size)).mono ?_; rintro e w3 ⟨rfl, hb3⟩))
    go_ret
    rw [lastOf_pos _ _ (by omega)]
    exact ⟨rfl, (hb.trans (hb2.mono hb.size)).trans hb3⟩
theorem readersN (u : Nat) (w : World) (h1 : u < 18446744073709551616) :
    Calls Tryd.prog 14 #[.int .u64 u] w fun e w' => e = .returned (.int .u64 ((u / 16 : Nat) : Int)) ∧ w = w' := by
  go_enter Tryd.func14, Tryd.ntmps14
  go_wp2
  go_ret
  exact ⟨rfl, rfl⟩
set_option maxHeartbeats 1000000 in
theorem rw_any (u : Nat) (hu : u < 18446744073709551616) (w : World) (hT : Tabs w) :
    Calls Tryd.prog 20 #[.int .u64 u] w fun e w' => e = .returned (.string (rwTxt u)) ∧ Below w.heap.size w w' := by
  have hn := named_any 1 8 (.inr (.inl ⟨rfl, rfl⟩)) u w (by omega) (by omega) m4 sRw hT.rw'.1 hT.rw'.2 hT.size
  have hrd := fun W => readersN u W hu
  unfold rwTxt
  have hr : u / 16 < 18446744073709551616 := by omega
  generalize u / 16 = r at *
  have HN := Lib.hid hn
  have HR := Lib.hid hrd
  clear hn hrd
  by_cases h0 : r = 0
  · subst h0
    go_enter Tryd.func20, Tryd.ntmps20
    go_wp2_with (first
      | (go_at_call 25; refine HN.out.mono ?_; rintro e w' ⟨v, rfl, hown, hb⟩)
      | (go_at_call 14; refine (HR.out _).mono ?_; rintro e w4 ⟨rfl, rfl⟩)
      | (go_at_call 27; refine (counted_none _ _).mono ?_; rintro e w2 ⟨rfl, rfl⟩)
      | (go_at_call 26; refine (tail0 u m4 sRw sRw_size w.heap.size v _ hown hb.size).mono ?_; rintro e w3 ⟨rfl, hb3⟩))
    go_ret
    exact ⟨rfl, hb.trans hb3⟩
  · go_enter Tryd.func20, Tryd.ntmps20
    go_wp2_with (first
      | (go_at_call 25; refine HN.out.mono ?_; rintro e w1 ⟨v, rfl, hown, hb⟩)
      | (go_at_call 14; refine (HR.out _).mono ?_; rintro e w4 ⟨rfl, rfl⟩)
      | (go_at_call 27; refine (counted_some ⟨#[114]⟩ (by decide) r (by omega) hr _ ((hT.below hb).pow)).mono ?_; rintro e w2 ⟨rfl, hb2⟩)
      | (go_at_call 26; refine (tail1 u m4 sRw sRw_size ⟨#[114]⟩ (by decide) r hr w.heap.size v _ (hown.kept (row := none) ⟨hb2.os, hb2.tape, hb2.output, hb2.size, fun k hk _ => hb2.block k hk⟩ (by cases v.ownBlock <;> simp)) (Nat.le_trans hb.size hb2.size)).mono ?_; rintro e w3 ⟨rfl, hb3⟩))
    go_ret
    rw [lastOf_pos _ _ (by omega)]
    exact ⟨rfl, (hb.trans (hb2.mono hb.size)).trans hb3⟩
end Go.Proofs.YtopkdnjploipaaaDoor
