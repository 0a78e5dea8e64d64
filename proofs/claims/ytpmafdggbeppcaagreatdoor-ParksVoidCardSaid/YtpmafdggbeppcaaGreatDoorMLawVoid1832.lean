/- Texts of this seat, one behind the other. -/
import Derived.Test.YtpmafdggbeppcaaGreatDoorMLawVoid1812
import Derived.Test.YtpmafdggbeppcaaGreatDoorMLawVoid1831
import Derived.Shelf.Abstract
import Derived.OwnWalkIn
import Derived.TacticsInMore
import Derived.LoopNIn
import Derived.LoopIn
set_option linter.unusedVariables false
set_option linter.unusedSimpArgs false
namespace Go.Proofs.YtpmafdggbeppcaaGreatDoor.S10
set_option maxRecDepth 100000
set_option maxHeartbeats 16000000
open Go.Proofs.YtpmafdggbeppcaaGreatDoor
open Go.RowKit
theorem entries_any (A : Option Addr) (n c : Nat) (w : World) : Calls Tryz.prog 124 #[.slice A n c] w fun e w' => e = .returned (.func (.func 139) #[] #[.pointer (some ⟨w.heap.size, 0, none⟩)]) ∧ w' = w.alloc (.cells #[.slice A n c] 220) := by
  go_enter Tryz.func124, Tryz.ntmps124
  go_wp2
  go_ret
  exact ⟨rfl, rfl⟩
theorem ent_stops {w : World} (m B n0 : Nat) {A : Option Addr} {Ls : List (List Ent)} {c : Nat} (hc : Ls.length ≤ c) (hc9 : c ≤ 9223372036854775807) (hB : w.cell? ⟨B, 0, none⟩ = some (.slice A Ls.length c)) (hBl : B < w.heap.size) (hq : Qs w n0 A Ls) (hn0 : n0 ≤ B) (hlen : Ls.length ≤ 1000000) :
    SeqStopsK Fence.wide m Tryz.prog 139 #[.pointer (some ⟨B, 0, none⟩)] (fun i : Nat => #[ag Ls.flatten[i]!]) (Turns (fun k => n0 ≤ k ∧ k ≠ B)) (fun xs => xs = List.range Ls.flatten.length) (fun _ => True) Ls.flatten.length w := by
  intro l J Jx W hW hJ hJx hY h0
  have hB' : W.cell? ⟨B, 0, none⟩ = some (.slice A Ls.length c) := (hW.cell (p := ⟨B, 0, none⟩) hBl).trans hB
  have hq' : Qs W n0 A Ls := hq.below hW (by omega)
  have hBW : B < W.heap.size := Nat.lt_of_lt_of_le hBl hW.size
  have HJ := Lib.hid hJ; have HY := Lib.hid hY; have HQ := Lib.hid hq'; have HB0 := Lib.hid h0
  clear hJ hJx hY hq hq' hB hW h0
  obtain ⟨N, hN⟩ : ∃ N, N = Ls.length := ⟨_, rfl⟩
  rw [← hN] at hB' hc hlen
  have HN := Lib.hid hN
  clear hN
  refine callsIn_wide.2 ?_
  go_enter Tryz.func139, Tryz.ntmps139
  go_wp2_with fail
  go_loopg [9] N (fun q s9 wx => ∃ k : Nat, k ≤ N ∧ q = N - k ∧ s9 = .int .i64 (k : Int) ∧ Turns (fun k => n0 ≤ k ∧ k ≠ B) W wx ∧ J (List.range (cum Ls k)) wx)
  case atStart => exact ⟨0, by omega, rfl, rfl, Turns.refl _ _, HB0.out⟩
  case round =>
    obtain ⟨k, hk, rfl, rfl, ht, hj⟩ := hrel
    have HT := Lib.hid ht; have HJK := Lib.hid hj
    clear ht hj
    by_cases hkn : k < N
    · have hkl : k < Ls.length := by have := HN.out; omega
      obtain ⟨g, o, A', c', rfl, hg, cq0, hc', hc9', hrd⟩ := HQ.out.at hkl
      have cq := (HT.out.cell (o := o + k) (by omega) (by omega)).trans cq0
      have HCM := Lib.hid (cum_succ hkl)
      have HCA := fun j (hj : j < Ls[k]!.length) => cum_at hkl hj
      have HCL := fun j (hj : j < Ls[k]!.length) => cum_mono hkl hj
      obtain ⟨D, hD⟩ : ∃ D, D = Ls[k]! := ⟨_, rfl⟩
      rw [← hD] at cq hc' hrd HCM HCA HCL
      have HCA := Lib.hid HCA; have HCL := Lib.hid HCL; have HD := Lib.hid hD
      have HRD := Lib.hid hrd
      obtain ⟨M, hM⟩ : ∃ M, M = D.length := ⟨_, rfl⟩
      rw [← hM] at cq hc'
      have HM := Lib.hid hM
      clear hD hM hrd cq0
      obtain ⟨wo, rfl⟩ : ∃ wo : World, wo = wr := ⟨_, rfl⟩
      go_wp2_with fail
      go_loopg [15] M (fun q s15 wx => ∃ j : Nat, j ≤ M ∧ q = M - j ∧ s15 = .int .i64 (j : Int) ∧ Turns (fun k => n0 ≤ k ∧ k ≠ B) W wx ∧ J (List.range (cum Ls k + j)) wx)
      case atStart => exact ⟨0, by omega, rfl, rfl, HT.out, HJK.out⟩
      case round =>
        obtain ⟨j, hj, rfl, rfl, ht, hJ2⟩ := hrel
        have HT2 := Lib.hid ht; have HJJ := Lib.hid hJ2
        clear ht hJ2
        by_cases hjm : j < M
        · obtain ⟨g1, o1, rfl, hg1, c0, c1, c2⟩ := (HRD.out.below (HT2.out.below (B := n0) (by omega) (fun k hk e => by omega)) (Nat.le_refl _)).ent (i := j) (by have := HM.out; omega)
          have hd := HCA.out j (by have := HM.out; omega)
          have hcl := HCL.out j (by have := HM.out; omega)
          have HDD := Lib.hid hd; have HLL := Lib.hid hcl
          generalize D[j]! = d at *
          clear hd hcl
          go_upto_region 6 with (fail)
          have cn := heap_alloc_new wr (.cells #[.int .i64 d.t, .int .u32 d.k, .int .u64 d.z] 39)
          have e0 := cell_row cn 0; have e1 := cell_row cn 1; have e2 := cell_row cn 2
          have hJa := HJ.out _ _ _ none HJJ.out (World.grownBy_alloc wr (.cells #[.int .i64 d.t, .int .u32 d.k, .int .u64 d.z] 39) none) (fun r e => by cases e)
          have hTa := HT2.out.alloc (.cells #[.int .i64 d.t, .int .u32 d.k, .int .u64 d.z] 39)
          have hy0 := HY.out _ (cum Ls k + j) _ hJa (by rw [List.length_range]; exact HLL.out)
          rw [HDD.out] at hy0
          obtain ⟨fn, tm, asg, bd, hy, hR⟩ := hy0
          have HTA := Lib.hid hTa
          clear hTa hJa cn
          generalize wr.alloc (.cells #[.int .i64 d.t, .int .u32 d.k, .int .u64 d.z] 39) = wa at *
          refine (wpIn_wide (n := m)).1 ?_
          gi_wp2
          refine ⟨fun e => (by cases e), hR.mono ?_⟩
          rintro e W3 (⟨rfl, hJ3, hk3⟩ | ⟨rfl, hJx3⟩)
          · have HJ3 := Lib.hid hJ3; have HK3 := Lib.hid hk3
            clear hJ3 hk3 hR hy
            gi_wp2
            go_wp2_with fail
            go_roundg (M - (j + 1))
            case measure => omega
            case rel =>
              refine ⟨j + 1, by omega, rfl, by go_num, HTA.out.trans HK3.out (fun _ _ e => e), ?_⟩
              have := HJ3.out
              rwa [range_snoc] at this
          · have HJx := Lib.hid hJx3
            clear hJx3 hR hy
            gi_wp2
            go_wp2_with fail
            refine bodyPost_ret (results_none rfl _ _ _) rfl ?_
            exact ⟨⟨_, rfl⟩, .inr ⟨_, trivial, HJx.out⟩⟩
        · obtain rfl : j = M := by omega
          go_wp2_with fail
          go_roundg (N - (k + 1))
          case measure => omega
          case rel =>
            refine ⟨k + 1, by omega, rfl, by go_num, HT2.out, ?_⟩
            rw [HCM.out, ← HM.out]; exact HJJ.out
    · obtain rfl : k = N := by omega
      go_wp2_with fail
      go_end0
      refine ⟨⟨_, rfl⟩, .inl ⟨_, rfl, ?_⟩⟩
      rw [← cum_all, ← HN.out]; exact HJK.out
end Go.Proofs.YtpmafdggbeppcaaGreatDoor.S10
namespace Go.Proofs.YtpmafdggbeppcaaGreatDoor.S10
set_option maxRecDepth 100000
set_option maxHeartbeats 16000000
open Go.Proofs.YtpmafdggbeppcaaGreatDoor
open Go.RowKit
theorem rsize_no (b : Int) (h : b < 2 ∨ 8 < b) (w : World) : Calls Tryz.prog 120 #[.int .i64 b] w fun e w' => e = .returned (.int .i64 0) ∧ w = w' := by
  by_cases h2 : b < 2
  · clear h
    go_enter Tryz.func120, Tryz.ntmps120
    go_wp2_with fail
    go_ret
    exact ⟨rfl, rfl⟩
  · have h8 : 8 < b := by omega
    have h2' : 2 ≤ b := by omega
    clear h h2
    go_enter Tryz.func120, Tryz.ntmps120
    go_wp2_with fail
    go_ret
    exact ⟨rfl, rfl⟩
theorem rsize_yes (b : Nat) (h : 2 ≤ b) (g : b ≤ 8) (w : World) : Calls Tryz.prog 120 #[.int .i64 b] w fun e w' => e = .returned (.int .i64 (2 ^ b : Nat)) ∧ w = w' := by
  have h' : 2 ≤ (b : Int) := by omega
  have g' : (b : Int) ≤ 8 := by omega
  go_enter Tryz.func120, Tryz.ntmps120
  go_wp2_with fail
  go_loopg [3, 4] b (fun q s3 s4 wx => ∃ k : Nat, k ≤ b ∧ q = b - k ∧ s3 = .int .i64 (2 ^ k : Nat) ∧ s4 = .int .i64 (k : Int) ∧ w = wx)
  case atStart => exact ⟨0, by omega, rfl, rfl, rfl, rfl⟩
  case round =>
    obtain ⟨k, hk, rfl, rfl, rfl, rfl⟩ := hrel
    by_cases hkb : k < b
    · have hz : 2 ^ k ≤ 128 := by
        calc 2 ^ k ≤ 2 ^ 7 := Nat.pow_le_pow_right (by omega) (by omega)
          _ = 128 := rfl
      have hs : 2 ^ (k + 1) = 2 * 2 ^ k := by rw [Nat.pow_succ]; omega
      have HS := Lib.hid hs
      obtain ⟨z, hzz⟩ : ∃ z, z = 2 ^ k := ⟨_, rfl⟩
      rw [← hzz] at hz ⊢
      have HZ := Lib.hid hzz
      clear hzz hs
      go_wp2_with fail
      go_roundg (b - (k + 1))
      case measure => omega
      case rel =>
        refine ⟨k + 1, by omega, rfl, ?_, by go_num, rfl⟩
        rw [HS.out, ← HZ.out]
        go_num
    · obtain rfl : k = b := by omega
      obtain ⟨z, hzz⟩ : ∃ z, z = 2 ^ k := ⟨_, rfl⟩
      rw [← hzz]
      have HZ := Lib.hid hzz
      clear hzz
      go_wp2_with fail
      go_ret
      exact ⟨by rw [← HZ.out]; rfl, rfl⟩
theorem rsize_any (b : Int) (w : World) : Calls Tryz.prog 120 #[.int .i64 b] w fun e w' => e = .returned (.int .i64 (sizeN b : Nat)) ∧ w = w' := by
  unfold sizeN
  by_cases h : 2 ≤ b ∧ b ≤ 8
  · obtain ⟨n, rfl⟩ := Int.eq_ofNat_of_zero_le (show 0 ≤ b by omega)
    rw [if_pos h]
    exact rsize_yes n (by omega) (by omega) w
  · rw [if_neg h]
    exact rsize_no b (by omega) w
theorem u64_hash (a m : Nat) (hm : m = a * 11400714819323198485 % 18446744073709551616) : IntKind.u64.wrap ((a : Int) * 11400714819323198485) = (m : Int) := by
  rw [IntKind.wrap_u64]; omega
theorem rhash_yes (a b : Nat) (ha : a < 4294967296) (h : 2 ≤ b) (g : b ≤ 8) (w : World) : Calls Tryz.prog 121 #[.int .u32 a, .int .i64 b] w fun e w' => e = .returned (.int .i64 (hsh a b : Nat)) ∧ w = w' := by
  have h' : 2 ≤ (b : Int) := by omega
  have g' : (b : Int) ≤ 8 := by omega
  have hl := hsh_lt a b (by omega)
  have hl2 : 2 ^ b ≤ 256 := by
    calc 2 ^ b ≤ 2 ^ 8 := Nat.pow_le_pow_right (by omega) (by omega)
      _ = 256 := rfl
  unfold hsh at hl ⊢
  obtain ⟨m, hm⟩ : ∃ m, m = a * 11400714819323198485 % 18446744073709551616 := ⟨_, rfl⟩
  have f := u64_hash a m hm
  have hmm : m < 18446744073709551616 := by rw [hm]; exact Nat.mod_lt _ (by omega)
  rw [← hm] at hl ⊢
  have HM := Lib.hid hm; have HL := Lib.hid hl
  clear hm hl
  go_enter Tryz.func121, Tryz.ntmps121
  go_wp2_with fail
  go_loopg [5, 6] (64 - b) (fun q s5 s6 wx => ∃ i : Nat, b ≤ i ∧ i ≤ 64 ∧ q = 64 - i ∧ s5 = .int .u64 (m / 2 ^ (i - b) : Nat) ∧ s6 = .int .i64 (i : Int) ∧ w = wx)
  case atStart =>
    refine ⟨b, by omega, by omega, rfl, ?_, rfl, rfl⟩
    rw [Nat.sub_self, Nat.pow_zero, Nat.div_one]
  case round =>
    obtain ⟨i, hi, hi2, rfl, rfl, rfl, rfl⟩ := hrel
    by_cases h64 : i < 64
    · have hx : m / 2 ^ (i - b) ≤ m := Nat.div_le_self _ _
      have hs : m / 2 ^ (i + 1 - b) = m / 2 ^ (i - b) / 2 := by
        rw [Nat.div_div_eq_div_mul, ← Nat.pow_succ, show i + 1 - b = (i - b) + 1 by omega]
      have HSS := Lib.hid hs
      obtain ⟨x, hxx⟩ : ∃ x, x = m / 2 ^ (i - b) := ⟨_, rfl⟩
      rw [← hxx] at hx ⊢
      have HX := Lib.hid hxx
      clear hxx hs
      go_wp2_with fail
      go_roundg (64 - (i + 1))
      case measure => omega
      case rel =>
        refine ⟨i + 1, by omega, by omega, rfl, ?_, by go_num, rfl⟩
        rw [HSS.out, ← HX.out]
        go_num
    · obtain rfl : i = 64 := by omega
      have hx := HL.out
      obtain ⟨x, hxx⟩ : ∃ x, x = m / 2 ^ (64 - b) := ⟨_, rfl⟩
      rw [← hxx] at hx ⊢
      have HX := Lib.hid hxx
      have hx3 : x < 256 := by omega
      clear hxx hx
      go_wp2_with fail
      go_ret
      exact ⟨by rw [← HX.out]; rfl, rfl⟩
theorem pow_bits (b : Nat) (g : b ≤ 8) : 2 ^ b ≤ 256 := by
  calc 2 ^ b ≤ 2 ^ 8 := Nat.pow_le_pow_right (by omega) (by omega)
    _ = 256 := rfl
theorem hash_kit : ∃ h : Nat → Nat → Nat, (∀ b : Nat, 2 ≤ b → b ≤ 8 → ∀ (k : Nat) (w : World), k < 4294967296 → Calls Tryz.prog 112 #[.int .u32 k, .int .i64 b] w fun e w' => e = .returned (.int .i64 (h b k : Nat)) ∧ w = w') ∧
    (∀ b : Nat, 2 ≤ b → b ≤ 8 → ∀ (k : Nat) (w : World), k < 4294967296 → Calls Tryz.prog 121 #[.int .u32 k, .int .i64 b] w fun e w' => e = .returned (.int .i64 (h b k : Nat)) ∧ w = w') ∧
    (∀ b : Nat, b ≤ 8 → ∀ k, h b k < 2 ^ b) ∧ (∀ b : Nat, b < 64 → ∀ k, h (b + 1) k / 2 = h b k) ∧ h 2 0 = 0 ∧ h 2 1 = 2 :=
  ⟨fun b k => hsh k b, fun b h g k w hk => hash_yes k b hk h g w, fun b h g k w hk => rhash_yes k b hk h g w, fun b g k => hsh_lt k b (by omega), fun b g k => hsh_half k b g, by decide, by decide⟩
end Go.Proofs.YtpmafdggbeppcaaGreatDoor.S10
