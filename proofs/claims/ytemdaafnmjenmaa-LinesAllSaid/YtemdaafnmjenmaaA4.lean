/- First, Has, Of of both; entries turned into the document's; are both alike; all of a list spoilt. -/
import Derived.Test.YtemdaafnmjenmaaA3
import Derived.Deep.DeepCutAuto
namespace Go.Proofs.Ytemdaafnmjenmaa
open Go.RowKit

theorem first_any {w : World} {base : Nat} {A : Option Addr} {D : List Ent} (c : Nat) (key : Int) (hr : Rd w base A (flat D)) (hbase : base ≤ w.heap.size) (hlen : D.length ≤ 1000000) :
    Calls Try.prog 9 #[.slice A D.length c, .int .u32 key] w fun e w' => e = .returned (.int .i64 (idx (byKey key) D)) ∧ Below w.heap.size w w' := by
  obtain ⟨w1, hw1⟩ : ∃ w1, w1 = w.alloc (.cells #[.int .u32 key] 24) := ⟨_, rfl⟩
  have hb1 : Below w.heap.size w w1 := by rw [hw1]; exact (Below.refl _ w).alloc (Nat.le_refl _) _
  have hc1 : w1.cell? ⟨w.heap.size, 0, none⟩ = some (.int .u32 key) := by rw [hw1, World.cell?_alloc_at _ _ _ _ rfl]; rfl
  have hs1 : w.heap.size < w1.heap.size := by rw [hw1]; simp
  have hcon := index_any c 29 #[.pointer (some ⟨w.heap.size, 0, none⟩)] (byKey key) eg29 (hr.below hb1 hbase) (by omega) hlen
    (fun W e hb => first1_any key w.heap.size w1 hc1 hs1 W e hb)
  generalize idx (byKey key) D = r at *
  have HC := Lib.hid hcon; have HB := Lib.hid hb1
  clear hcon hb1 hc1 hr
  subst hw1
  go_enter Try.func9, Try.ntmps9
  go_wp2_with fail
  refine HC.out.mono ?_
  rintro e w' ⟨rfl, hb'⟩
  go_wp2_with fail
  go_ret
  exact ⟨rfl, HB.out.trans (hb'.mono HB.out.size)⟩
theorem of_any {w : World} {base : Nat} {A : Option Addr} {D : List Ent} (c : Nat) (t : Int) (hr : Rd w base A (flat D)) (hbase : base ≤ w.heap.size) (hlen : D.length ≤ 1000000) :
    Calls Try.prog 13 #[.slice A D.length c, .int .i64 t] w fun e w' => e = .returned (.int .i64 (idx (byThread t) D)) ∧ Below w.heap.size w w' := by
  obtain ⟨w1, hw1⟩ : ∃ w1, w1 = w.alloc (.cells #[.int .i64 t] 3) := ⟨_, rfl⟩
  have hb1 : Below w.heap.size w w1 := by rw [hw1]; exact (Below.refl _ w).alloc (Nat.le_refl _) _
  have hc1 : w1.cell? ⟨w.heap.size, 0, none⟩ = some (.int .i64 t) := by rw [hw1, World.cell?_alloc_at _ _ _ _ rfl]; rfl
  have hs1 : w.heap.size < w1.heap.size := by rw [hw1]; simp
  have hcon := index_any c 30 #[.pointer (some ⟨w.heap.size, 0, none⟩)] (byThread t) eg30 (hr.below hb1 hbase) (by omega) hlen
    (fun W e hb => of1_any t w.heap.size w1 hc1 hs1 W e hb)
  generalize idx (byThread t) D = r at *
  have HC := Lib.hid hcon; have HB := Lib.hid hb1
  clear hcon hb1 hc1 hr
  subst hw1
  go_enter Try.func13, Try.ntmps13
  go_wp2_with fail
  refine HC.out.mono ?_
  rintro e w' ⟨rfl, hb'⟩
  go_wp2_with fail
  go_ret
  exact ⟨rfl, HB.out.trans (hb'.mono HB.out.size)⟩
theorem has_any {w : World} {base : Nat} {A : Option Addr} {D : List Ent} (c : Nat) (key : Int) (hr : Rd w base A (flat D)) (hbase : base ≤ w.heap.size) (hlen : D.length ≤ 1000000) :
    Calls Try.prog 11 #[.slice A D.length c, .int .u32 key] w fun e w' => e = .returned (.bool (decide (0 ≤ idx (byKey key) D))) ∧ Below w.heap.size w w' := by
  have HC := Lib.hid (first_any c key hr hbase hlen)
  clear hr
  generalize idx (byKey key) D = r at *
  go_enter Try.func11, Try.ntmps11
  go_wp2_with fail
  refine HC.out.mono ?_
  rintro e w' ⟨rfl, hb'⟩
  go_wp2_with fail
  go_ret
  exact ⟨rfl, hb'⟩
theorem rfirst_any {w : World} {base : Nat} {A : Option Addr} {D : List Ent} (c : Nat) (key : Int) (hr : Rd w base A (flat D)) (hlen : D.length ≤ 1000000) :
    Calls Try.prog 10 #[.slice A D.length c, .int .u32 key] w fun e w' => e = .returned (.int .i64 (idx (byKey key) D)) ∧ w = w' := by
  have HR := Lib.hid hr
  clear hr
  obtain ⟨n, hn⟩ : ∃ n, n = D.length := ⟨_, rfl⟩
  rw [← hn]
  have HN := Lib.hid hn
  have hn6 : n ≤ 1000000 := by omega
  clear hn hlen
  go_enter Try.func10, Try.ntmps10
  go_wp2_with fail
  go_loopg [5] n (fun q s5 wx => ∃ k : Nat, k ≤ n ∧ q = n - k ∧ s5 = .int .i64 (k : Int) ∧ w = wx ∧ ∀ j, j < k → byKey key D[j]! = false)
  case atStart => exact ⟨0, by omega, rfl, rfl, rfl, fun j hj => by omega⟩
  case round =>
    obtain ⟨k, hk, rfl, rfl, rfl, hj⟩ := hrel
    have HJ := Lib.hid hj
    clear hj
    by_cases hkn : k < n
    · obtain ⟨lb', lo, rfl, hlb, c0, c1, c2⟩ := HR.out.ent (i := k) (by have := HN.out; omega)
      generalize hd : D[k]! = d at *
      have HE := Lib.hid hd
      clear hd
      have hlt : (k : Int) < (n : Int) := by omega
      by_cases hq : d.k = key
      · go_wp2_with fail
        go_ret
        rw [idx_hit (by have := HN.out; omega) HJ.out (by rw [HE.out]; simp [byKey, hq])]
        exact ⟨rfl, rfl⟩
      · go_wp2_with fail
        go_roundg (n - (k + 1))
        case measure => omega
        case rel =>
          refine ⟨k + 1, by omega, rfl, by go_num, rfl, fun j hj => ?_⟩
          by_cases e : j = k
          · subst e; rw [HE.out]; simp [byKey, hq]
          · exact HJ.out j (by omega)
    · obtain rfl : k = n := by omega
      go_wp2_with fail
      go_ret
      rw [idx_miss (by rw [← HN.out]; exact HJ.out)]
      exact ⟨rfl, rfl⟩
theorem rof_any {w : World} {base : Nat} {A : Option Addr} {D : List Ent} (c : Nat) (t : Int) (hr : Rd w base A (flat D)) (hlen : D.length ≤ 1000000) :
    Calls Try.prog 14 #[.slice A D.length c, .int .i64 t] w fun e w' => e = .returned (.int .i64 (idx (byThread t) D)) ∧ w = w' := by
  have HR := Lib.hid hr
  clear hr
  obtain ⟨n, hn⟩ : ∃ n, n = D.length := ⟨_, rfl⟩
  rw [← hn]
  have HN := Lib.hid hn
  have hn6 : n ≤ 1000000 := by omega
  clear hn hlen
  go_enter Try.func14, Try.ntmps14
  go_wp2_with fail
  go_loopg [5] n (fun q s5 wx => ∃ k : Nat, k ≤ n ∧ q = n - k ∧ s5 = .int .i64 (k : Int) ∧ w = wx ∧ ∀ j, j < k → byThread t D[j]! = false)
  case atStart => exact ⟨0, by omega, rfl, rfl, rfl, fun j hj => by omega⟩
  case round =>
    obtain ⟨k, hk, rfl, rfl, rfl, hj⟩ := hrel
    have HJ := Lib.hid hj
    clear hj
    by_cases hkn : k < n
    · obtain ⟨lb', lo, rfl, hlb, c0, c1, c2⟩ := HR.out.ent (i := k) (by have := HN.out; omega)
      generalize hd : D[k]! = d at *
      have HE := Lib.hid hd
      clear hd
      have hlt : (k : Int) < (n : Int) := by omega
      by_cases hq : d.t = t
      · go_wp2_with fail
        go_ret
        rw [idx_hit (by have := HN.out; omega) HJ.out (by rw [HE.out]; simp [byThread, hq])]
        exact ⟨rfl, rfl⟩
      · go_wp2_with fail
        go_roundg (n - (k + 1))
        case measure => omega
        case rel =>
          refine ⟨k + 1, by omega, rfl, by go_num, rfl, fun j hj => ?_⟩
          by_cases e : j = k
          · subst e; rw [HE.out]; simp [byThread, hq]
          · exact HJ.out j (by omega)
    · obtain rfl : k = n := by omega
      go_wp2_with fail
      go_ret
      rw [idx_miss (by rw [← HN.out]; exact HJ.out)]
      exact ⟨rfl, rfl⟩
theorem rhas_any {w : World} {base : Nat} {A : Option Addr} {D : List Ent} (c : Nat) (key : Int) (hr : Rd w base A (flat D)) (hlen : D.length ≤ 1000000) :
    Calls Try.prog 12 #[.slice A D.length c, .int .u32 key] w fun e w' => e = .returned (.bool (decide (0 ≤ idx (byKey key) D))) ∧ w = w' := by
  have HC := Lib.hid (rfirst_any c key hr hlen)
  clear hr
  generalize idx (byKey key) D = r at *
  go_enter Try.func12, Try.ntmps12
  go_wp2_with fail
  refine HC.out.mono ?_
  rintro e w' ⟨rfl, rfl⟩
  go_wp2_with fail
  go_ret
  exact ⟨rfl, rfl⟩
end Go.Proofs.Ytemdaafnmjenmaa
