/- The document's Placed. -/
import Derived.Test.YtjblpdnhkoemjaaF3
namespace Go.Proofs.Ytjblpdnhkoemjaa
open Go.RowKit

set_option maxHeartbeats 2000000 in
set_option maxRecDepth 20000 in
theorem rplaced_any {w : World} {base n c : Nat} {b : Int} {A : Option Addr} {Ls : List (List Ent)} (h : Nat → Nat)
    (hs : ∀ w, Calls Try.prog 24 #[.int .i64 b] w fun e w' => e = .returned (.int .i64 (n : Nat)) ∧ w = w')
    (hh : 0 < n → ∀ (k : Nat) w, k < 4294967296 → Calls Try.prog 25 #[.int .u32 k, .int .i64 b] w fun e w' => e = .returned (.int .i64 (h k : Nat)) ∧ w = w')
    (hn : n ≤ 256) (hq : Qs w base A Ls) (hc : Ls.length ≤ c) (hc9 : c ≤ 9223372036854775807) (hkeys : Keys Ls.flatten) :
    Calls Try.prog 13 #[.slice A Ls.length c, .int .i64 b] w fun e w' => PlE h n Ls w e w' := by
  have HS := Lib.hid hs; have HH := Lib.hid hh; have HQ := Lib.hid hq; have HK := Lib.hid hkeys
  clear hs hh hq hkeys
  obtain ⟨N, hN⟩ : ∃ N, N = Ls.length := ⟨_, rfl⟩
  rw [← hN] at hc ⊢
  have HN := Lib.hid hN
  clear hN
  by_cases hNn : N = n
  · subst hNn
    by_cases h0 : N = 0
    · subst h0
      go_enter Try.func13, Try.ntmps13
      go_wp2_with (go_at_call 24; refine (HS.out _).mono ?_; rintro e w' ⟨rfl, rfl⟩)
      go_ret
      exact ⟨false, rfl, ⟨fun e => (by cases e), fun e => by have := e.1; omega⟩, Below.refl _ _⟩
    · have HHH := Lib.hid (HH.out (by omega))
      have h00 : ((N : Int) == 0) = false := by rw [beq_eq_false_iff_ne]; omega
      go_enter Try.func13, Try.ntmps13
      go_wp2_with (go_at_call 24; refine (HS.out _).mono ?_; rintro e w' ⟨rfl, rfl⟩)
      go_loopg [5] N (fun q s5 wx => ∃ k : Nat, k ≤ N ∧ q = N - k ∧ s5 = .int .i64 (k : Int) ∧ w = wx ∧ ∀ i, i < k → ∀ j, j < Ls[i]!.length → h (el Ls[i]! j).k.toNat = i)
      case atStart => exact ⟨0, by omega, rfl, rfl, rfl, fun i hi => by omega⟩
      case round =>
        obtain ⟨k, hk, rfl, rfl, rfl, hpl⟩ := hrel
        have HPL := Lib.hid hpl
        clear hpl
        by_cases hkn : k < N
        · have hkl : k < Ls.length := by have := HN.out; omega
          obtain ⟨g, o, A', c', rfl, hg, cq, hc', hc9', hrd⟩ := HQ.out.at hkl
          have HRD := Lib.hid hrd
          have HKI := Lib.hid (fun j => keys_in HK.out hkl (j := j))
          obtain ⟨D, hD⟩ : ∃ D, D = Ls[k]! := ⟨_, rfl⟩
          rw [← hD] at cq hc' HRD HKI
          obtain ⟨M, hM⟩ : ∃ M, M = D.length := ⟨_, rfl⟩
          rw [← hM] at cq hc' HKI
          have HM := Lib.hid hM; have HD := Lib.hid hD
          clear hM hD hrd
          go_wp2_with fail
          go_loopg [6] M (fun q s6 wx => ∃ j : Nat, j ≤ M ∧ q = M - j ∧ s6 = .int .i64 (j : Int) ∧ w = wx ∧ ∀ i, i < j → h (el D i).k.toNat = k)
          case atStart => exact ⟨0, by omega, rfl, rfl, rfl, fun i hi => by omega⟩
          case round =>
            obtain ⟨j, hj, rfl, rfl, rfl, hpl⟩ := hrel
            have HPL2 := Lib.hid hpl
            clear hpl
            by_cases hjm : j < M
            · obtain ⟨kk, hkk, hk2⟩ := HKI.out j hjm
              obtain ⟨g1, o1, rfl, hg1, c0, c1, c2⟩ := HRD.out.key (i := j) (by have := HM.out; omega) hkk
              obtain ⟨d, hd⟩ : ∃ d, d = el D j := ⟨_, rfl⟩
              rw [← hd] at c0 c2 hkk
              have HKK := Lib.hid hkk; have HDD := Lib.hid hd
              clear hkk hd
              by_cases heq : h kk = k
              · have he : (((h kk : Nat) : Int) != (k : Int)) = false := by rw [heq]; simp
                go_wp2_with (go_at_call 25; refine (HHH.out kk _ hk2).mono ?_; rintro e w' ⟨rfl, rfl⟩)
                go_roundg (M - (j + 1))
                case measure => omega
                case rel =>
                  refine ⟨j + 1, by omega, rfl, by go_num, rfl, fun i hi => ?_⟩
                  by_cases e : i = j
                  · subst e; rw [← HDD.out, HKK.out, Int.toNat_natCast]; exact heq
                  · exact HPL2.out i (by omega)
              · have he : (((h kk : Nat) : Int) != (k : Int)) = true := by rw [bne_iff_ne]; omega
                go_wp2_with (go_at_call 25; refine (HHH.out kk _ hk2).mono ?_; rintro e w' ⟨rfl, rfl⟩)
                go_ret
                refine ⟨false, rfl, ⟨fun e => (by cases e), fun e => ?_⟩, Below.refl _ _⟩
                have := e.2.2 k hkl j (by rw [← HD.out, ← HM.out]; exact hjm)
                rw [← HD.out, ← HDD.out, HKK.out, Int.toNat_natCast] at this
                exact (heq this).elim
            · obtain rfl : j = M := by omega
              go_wp2_with fail
              go_roundg (N - (k + 1))
              case measure => omega
              case rel =>
                refine ⟨k + 1, by omega, rfl, by go_num, rfl, fun i hi => ?_⟩
                by_cases e : i = k
                · subst e; rw [← HD.out, ← HM.out]; exact HPL2.out
                · exact HPL.out i (by omega)
        · obtain rfl : k = N := by omega
          go_wp2_with fail
          go_ret
          exact ⟨true, rfl, ⟨fun _ => ⟨by omega, HN.out.symm, fun i hi => HPL.out i (by rw [HN.out]; exact hi)⟩, fun _ => rfl⟩, Below.refl _ _⟩
  · have hNN : ((N : Int) != (n : Int)) = true := by rw [bne_iff_ne]; omega
    go_enter Try.func13, Try.ntmps13
    go_wp2_with (go_at_call 24; refine (HS.out _).mono ?_; rintro e w' ⟨rfl, rfl⟩)
    go_ret
    exact ⟨false, rfl, ⟨fun e => (by cases e), fun e => by have := HN.out; omega⟩, Below.refl _ _⟩
end Go.Proofs.Ytjblpdnhkoemjaa
