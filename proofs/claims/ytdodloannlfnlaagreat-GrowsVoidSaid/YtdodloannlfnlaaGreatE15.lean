/- Texts of this seat, one behind the other. -/
import Derived.Test.YtdodloannlfnlaaGreatE13
import Derived.Test.YtdodloannlfnlaaGreatE14
import Derived.Shelf.Abstract
import Derived.OwnWalkIn
import Derived.TacticsInMore
import Derived.LoopNIn
import Derived.LoopIn
set_option linter.unusedVariables false
set_option linter.unusedSimpArgs false
namespace Go.Proofs.YtdodloannlfnlaaGreat.S10
open Go.Proofs.YtdodloannlfnlaaGreat
open Go.RowKit

theorem entries_any (A : Option Addr) (n c : Nat) (w : World) : Calls Tryz.prog 94 #[.slice A n c] w fun e w' => e = .returned (.func (.func 108) #[] #[.pointer (some ⟨w.heap.size, 0, none⟩)]) ∧ w' = w.alloc (.cells #[.slice A n c] 149) := by
  go_enter Tryz.func94, Tryz.ntmps94
  go_wp2
  go_ret
  exact ⟨rfl, rfl⟩

set_option maxHeartbeats 2000000 in
set_option maxRecDepth 100000 in
theorem ent_stops {w : World} (m B n0 : Nat) {A : Option Addr} {Ls : List (List Ent)} {c : Nat} (hc : Ls.length ≤ c) (hc9 : c ≤ 9223372036854775807) (hB : w.cell? ⟨B, 0, none⟩ = some (.slice A Ls.length c)) (hBl : B < w.heap.size) (hq : Qs w n0 A Ls) (hn0 : n0 ≤ B) (hlen : Ls.length ≤ 1000000) :
    SeqStopsK Fence.wide m Tryz.prog 108 #[.pointer (some ⟨B, 0, none⟩)] (fun i : Nat => #[ag Ls.flatten[i]!]) (Turns (fun k => n0 ≤ k ∧ k ≠ B)) (fun xs => xs = List.range Ls.flatten.length) (fun _ => True) Ls.flatten.length w := by
  intro l J Jx W hW hJ hJx hY h0
  have hB' : W.cell? ⟨B, 0, none⟩ = some (.slice A Ls.length c) := (hW.cell (p := ⟨B, 0, none⟩) hBl).trans hB
  have hq' : Qs W n0 A Ls := hq.below hW (by omega)
  have hBW : B < W.heap.size := Nat.lt_of_lt_of_le hBl hW.size
  have HJ := Lib.hid hJ; have HY := Lib.hid hY; have HQ := Lib.hid hq'; have HB0 := Lib.hid h0
  clear hJ hJx hY hq hq' hB hW h0
  obtain ⟨N, hN⟩ : ∃ N, N = Ls.length := ⟨_, rfl⟩
  rw [← hN] at hB' hc hlen
  have HN := Lib.hid hN
  clear hN
  refine callsIn_wide.2 ?_
  go_enter Tryz.func108, Tryz.ntmps108
  go_wp2_with fail
  go_loopg [9] N (fun q s9 wx => ∃ k : Nat, k ≤ N ∧ q = N - k ∧ s9 = .int .i64 (k : Int) ∧ Turns (fun k => n0 ≤ k ∧ k ≠ B) W wx ∧ J (List.range (cum Ls k)) wx)
  case atStart => exact ⟨0, by omega, rfl, rfl, Turns.refl _ _, HB0.out⟩
  case round =>
    obtain ⟨k, hk, rfl, rfl, ht, hj⟩ := hrel
    have HT := Lib.hid ht; have HJK := Lib.hid hj
    clear ht hj
    by_cases hkn : k < N
    · have hkl : k < Ls.length := by have := HN.out; omega
      obtain ⟨g, o, A', c', rfl, hg, cq0, hc', hc9', hrd⟩ := HQ.out.at hkl
      have cq := (HT.out.cell (o := o + k) (by omega) (by omega)).trans cq0
      have HCM := Lib.hid (cum_succ hkl)
      have HCA := fun j (hj : j < Ls[k]!.length) => cum_at hkl hj
      have HCL := fun j (hj : j < Ls[k]!.length) => cum_mono hkl hj
      obtain ⟨D, hD⟩ : ∃ D, D = Ls[k]! := ⟨_, rfl⟩
      rw [← hD] at cq hc' hrd HCM HCA HCL
      have HCA := Lib.hid HCA; have HCL := Lib.hid HCL; have HD := Lib.hid hD
      have HRD := Lib.hid hrd
      obtain ⟨M, hM⟩ : ∃ M, M = D.length := ⟨_, rfl⟩
      rw [← hM] at cq hc'
      have HM := Lib.hid hM
      clear hD hM hrd cq0
      obtain ⟨wo, rfl⟩ : ∃ wo : World, wo = wr := ⟨_, rfl⟩
      go_wp2_with fail
      go_loopg [15] M (fun q s15 wx => ∃ j : Nat, j ≤ M ∧ q = M - j ∧ s15 = .int .i64 (j : Int) ∧ Turns (fun k => n0 ≤ k ∧ k ≠ B) W wx ∧ J (List.range (cum Ls k + j)) wx)
      case atStart => exact ⟨0, by omega, rfl, rfl, HT.out, HJK.out⟩
      case round =>
        obtain ⟨j, hj, rfl, rfl, ht, hJ2⟩ := hrel
        have HT2 := Lib.hid ht; have HJJ := Lib.hid hJ2
        clear ht hJ2
        by_cases hjm : j < M
        · obtain ⟨g1, o1, rfl, hg1, c0, c1, c2⟩ := (HRD.out.below (HT2.out.below (B := n0) (by omega) (fun k hk e => by omega)) (Nat.le_refl _)).ent (i := j) (by have := HM.out; omega)
          have hd := HCA.out j (by have := HM.out; omega)
          have hcl := HCL.out j (by have := HM.out; omega)
          have HDD := Lib.hid hd; have HLL := Lib.hid hcl
          generalize D[j]! = d at *
          clear hd hcl
          go_upto_region 6 with (fail)
          have cn := heap_alloc_new wr (.cells #[.int .i64 d.t, .int .u32 d.k, .int .u64 d.z] 165)
          have e0 := cell_row cn 0; have e1 := cell_row cn 1; have e2 := cell_row cn 2
          have hJa := HJ.out _ _ _ none HJJ.out (World.grownBy_alloc wr (.cells #[.int .i64 d.t, .int .u32 d.k, .int .u64 d.z] 165) none) (fun r e => by cases e)
          have hTa := HT2.out.alloc (.cells #[.int .i64 d.t, .int .u32 d.k, .int .u64 d.z] 165)
          have hy0 := HY.out _ (cum Ls k + j) _ hJa (by rw [List.length_range]; exact HLL.out)
          rw [HDD.out] at hy0
          obtain ⟨fn, tm, asg, bd, hy, hR⟩ := hy0
          have HTA := Lib.hid hTa
          clear hTa hJa cn
          generalize wr.alloc (.cells #[.int .i64 d.t, .int .u32 d.k, .int .u64 d.z] 165) = wa at *
          refine (wpIn_wide (n := m)).1 ?_
          gi_wp2
          refine ⟨fun e => (by cases e), hR.mono ?_⟩
          rintro e W3 (⟨rfl, hJ3, hk3⟩ | ⟨rfl, hJx3⟩)
          · have HJ3 := Lib.hid hJ3; have HK3 := Lib.hid hk3
            clear hJ3 hk3 hR hy
            gi_wp2
            go_wp2_with fail
            go_roundg (M - (j + 1))
            case measure => omega
            case rel =>
              refine ⟨j + 1, by omega, rfl, by go_num, HTA.out.trans HK3.out (fun _ _ e => e), ?_⟩
              have := HJ3.out
              rwa [range_snoc] at this
          · have HJx := Lib.hid hJx3
            clear hJx3 hR hy
            gi_wp2
            go_wp2_with fail
            refine bodyPost_ret (results_none rfl _ _ _) rfl ?_
            exact ⟨⟨_, rfl⟩, .inr ⟨_, trivial, HJx.out⟩⟩
        · obtain rfl : j = M := by omega
          go_wp2_with fail
          go_roundg (N - (k + 1))
          case measure => omega
          case rel =>
            refine ⟨k + 1, by omega, rfl, by go_num, HT2.out, ?_⟩
            rw [HCM.out, ← HM.out]; exact HJJ.out
    · obtain rfl : k = N := by omega
      go_wp2_with fail
      go_end0
      refine ⟨⟨_, rfl⟩, .inl ⟨_, rfl, ?_⟩⟩
      rw [← cum_all, ← HN.out]; exact HJK.out
end Go.Proofs.YtdodloannlfnlaaGreat.S10
