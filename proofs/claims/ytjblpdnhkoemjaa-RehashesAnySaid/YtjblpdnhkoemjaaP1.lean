/- Are there few, how many; are queues placed. -/
import Derived.Test.YtjblpdnhkoemjaaR1
import Derived.WalkMore
namespace Go.Proofs.Ytjblpdnhkoemjaa
open Go.RowKit

/-- What Few tells: where it holds, they are few. -/
def FewE (Ls : List (List Ent)) (w : World) (e : Ending) (w' : World) : Prop := ∃ f : Bool, e = .returned (.bool f) ∧ w = w' ∧ (f = true → (∀ i, i < Ls.length → Ls[i]!.length ≤ 60) ∧ Ls.length ≤ 300 ∧ Ls.flatten.length ≤ 600)
set_option maxHeartbeats 1000000 in
theorem few_any {w : World} {base c : Nat} {A : Option Addr} {Ls : List (List Ent)} (hq : Qs w base A Ls) (hc : Ls.length ≤ c) (hc9 : c ≤ 9223372036854775807) :
    Calls Try.prog 6 #[.slice A Ls.length c] w fun e w' => FewE Ls w e w' := by
  have HQ := Lib.hid hq
  clear hq
  obtain ⟨N, hN⟩ : ∃ N, N = Ls.length := ⟨_, rfl⟩
  rw [← hN] at hc ⊢
  have HN := Lib.hid hN
  clear hN
  go_enter Try.func6, Try.ntmps6
  go_wp2_with fail
  go_loopg [3, 4] N (fun q s3 s4 wx => ∃ (k : Nat) (z : Int), k ≤ N ∧ q = N - k ∧ s3 = .int .i64 z ∧ s4 = .int .i64 (k : Int) ∧ w = wx ∧ (N ≤ 300 → z = (cum Ls k : Nat)) ∧ (∀ i, i < k → Ls[i]!.length ≤ 60) ∧ (cum Ls k ≤ 60 * k))
  case atStart => exact ⟨0, 0, by omega, rfl, rfl, rfl, rfl, fun _ => rfl, fun i hi => by omega, by rw [cum_zero]; omega⟩
  case round =>
    obtain ⟨k, z, hk, rfl, rfl, rfl, rfl, hz, hall, hcu⟩ := hrel
    have HZ := Lib.hid hz; have HALL := Lib.hid hall; have HCU := Lib.hid hcu
    clear hz hall hcu
    by_cases hkn : k < N
    · have hkl : k < Ls.length := by have := HN.out; omega
      obtain ⟨g, o, A', c', rfl, hg, cq, hc', hc9', hrd⟩ := HQ.out.at hkl
      have HCS := Lib.hid (cum_succ hkl)
      obtain ⟨M, hM⟩ : ∃ M, M = Ls[k]!.length := ⟨_, rfl⟩
      rw [← hM] at cq hc' HCS
      have HM := Lib.hid hM
      clear hM hrd
      by_cases h60 : M ≤ 60
      · go_wp2_with fail
        go_roundg (N - (k + 1))
        case measure => omega
        case rel =>
          refine ⟨k + 1, _, by omega, rfl, rfl, by go_num, rfl, fun hN3 => ?_, fun i hi => ?_, ?_⟩
          · have h1 := HZ.out hN3
            have h2 := HCS.out
            have h3 := HCU.out
            unfold wrap64
            omega
          · by_cases e : i = k
            · subst e; have := HM.out; omega
            · exact HALL.out i (by omega)
          · have h2 := HCS.out; have h3 := HCU.out; omega
      · have h61 : 60 < (M : Int) := by omega
        go_wp2_with fail
        go_ret
        exact ⟨false, rfl, rfl, fun e => by cases e⟩
    · obtain rfl : k = N := by omega
      by_cases h3 : k ≤ 300
      · obtain rfl := HZ.out h3
        by_cases h6 : cum Ls k ≤ 600
        · have h6' : ((cum Ls k : Nat) : Int) ≤ 600 := by omega
          go_wp2_with fail
          go_ret
          refine ⟨true, ?_, rfl, fun _ => ⟨?_, ?_, ?_⟩⟩
          · rfl
          · rw [← HN.out]; exact HALL.out
          · rw [← HN.out]; exact h3
          · have := HN.out; have h8 := cum_all Ls; rw [← this] at h8; omega
        · have h6' : decide (((cum Ls k : Nat) : Int) ≤ 600) = false := decide_eq_false (by omega)
          go_wp2_with fail
          go_ret
          exact ⟨false, rfl, rfl, fun e => by cases e⟩
      · have h3' : 300 < (k : Int) := by omega
        go_wp2_with fail
        go_ret
        exact ⟨false, rfl, rfl, fun e => by cases e⟩
set_option maxHeartbeats 1000000 in
theorem many_any {w : World} {base c : Nat} {A : Option Addr} {Ls : List (List Ent)} (hq : Qs w base A Ls) (hc : Ls.length ≤ c) (hc9 : c ≤ 9223372036854775807) (hlen : Ls.flatten.length ≤ 1000000) :
    Calls Try.prog 15 #[.slice A Ls.length c] w fun e w' => e = .returned (.int .i64 (Ls.flatten.length : Nat)) ∧ w = w' := by
  have HQ := Lib.hid hq; have HL := Lib.hid hlen
  clear hq hlen
  obtain ⟨N, hN⟩ : ∃ N, N = Ls.length := ⟨_, rfl⟩
  rw [← hN] at hc ⊢
  have HN := Lib.hid hN
  clear hN
  go_enter Try.func15, Try.ntmps15
  go_wp2_with fail
  go_loopg [3, 4] N (fun q s3 s4 wx => ∃ k : Nat, k ≤ N ∧ q = N - k ∧ s3 = .int .i64 (cum Ls k : Nat) ∧ s4 = .int .i64 (k : Int) ∧ w = wx)
  case atStart => exact ⟨0, by omega, rfl, rfl, rfl, rfl⟩
  case round =>
    obtain ⟨k, hk, rfl, rfl, rfl, rfl⟩ := hrel
    by_cases hkn : k < N
    · have hkl : k < Ls.length := by have := HN.out; omega
      obtain ⟨g, o, A', c', rfl, hg, cq, hc', hc9', hrd⟩ := HQ.out.at hkl
      have hcs := cum_succ hkl
      have hcm : cum Ls (k + 1) ≤ Ls.flatten.length := by
        unfold cum
        have := List.take_append_drop (k + 1) Ls
        rw [← congrArg List.flatten this, List.flatten_append, List.length_append]
        omega
      obtain ⟨M, hM⟩ : ∃ M, M = Ls[k]!.length := ⟨_, rfl⟩
      rw [← hM] at cq hc' hcs
      have hle := HL.out
      have HCS := Lib.hid hcs
      obtain ⟨C, hC⟩ : ∃ C, C = cum Ls k := ⟨_, rfl⟩
      rw [← hC] at hcs ⊢
      have hb : C + M ≤ 1000000 := by omega
      have HC := Lib.hid hC
      clear hM hrd hC hcs hcm hle
      go_wp2_with fail
      go_roundg (N - (k + 1))
      case measure => omega
      case rel =>
        refine ⟨k + 1, by omega, rfl, ?_, by go_num, rfl⟩
        rw [HCS.out, ← HC.out]
        go_num
    · obtain rfl : k = N := by omega
      have h8 := cum_all Ls
      rw [← HN.out] at h8
      rw [h8]
      go_wp2_with fail
      go_ret
      exact ⟨rfl, rfl⟩
end Go.Proofs.Ytjblpdnhkoemjaa
