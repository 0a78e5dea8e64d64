/- Are queues placed? -/
import Derived.Test.YtjblpdnhkoemjaaP1
namespace Go.Proofs.Ytjblpdnhkoemjaa
open Go.RowKit

/-- Each entry stands where its key hashes to. -/
def Pl (h : Nat → Nat) (Ls : List (List Ent)) : Prop := ∀ i, i < Ls.length → ∀ j, j < Ls[i]!.length → h (el Ls[i]! j).k.toNat = i
/-- What Placed tells. -/
def PlE (h : Nat → Nat) (n : Nat) (Ls : List (List Ent)) (w : World) (e : Ending) (w' : World) : Prop := ∃ f : Bool, e = .returned (.bool f) ∧ (f = true ↔ 0 < n ∧ Ls.length = n ∧ Pl h Ls) ∧ Below w.heap.size w w'
theorem keys_in {Ls : List (List Ent)} (hk : Keys Ls.flatten) {i : Nat} (hi : i < Ls.length) {j : Nat} (hj : j < Ls[i]!.length) : ∃ k : Nat, (el Ls[i]! j).k = (k : Int) ∧ k < 4294967296 := by
  have := hk.get (cum Ls i + j)
  rwa [cum_at hi hj] at this
/-- A key's place in a queue's memory. -/
theorem Rd.key {w : World} {base : Nat} {A : Option Addr} {D : List Ent} (h : Rd w base A (flat D)) {i : Nat} (hi : i < D.length) {k : Nat} (hk : (el D i).k = (k : Int)) : ∃ g o, A = some ⟨g, o, none⟩ ∧ g < base ∧
    w.cell? ⟨g, o + i * 3, none⟩ = some (.int .i64 (el D i).t) ∧ w.cell? ⟨g, o + i * 3 + 1, none⟩ = some (.int .u32 (k : Int)) ∧ w.cell? ⟨g, o + i * 3 + 2, none⟩ = some (.int .u64 (el D i).z) := by
  obtain ⟨g, o, e, hg, h0, h1, h2⟩ := h.ent hi
  exact ⟨g, o, e, hg, h0, by rw [← hk]; exact h1, h2⟩
theorem placed_none {w : World} {c : Nat} {b : Int} {A : Option Addr} {Ls : List (List Ent)} (h : Nat → Nat)
    (hs : ∀ w, Calls Try.prog 20 #[.int .i64 b] w fun e w' => e = .returned (.int .i64 (0 : Nat)) ∧ w = w') (hc : Ls.length ≤ c) (hc9 : c ≤ 9223372036854775807) :
    Calls Try.prog 12 #[.slice A Ls.length c, .int .i64 b] w fun e w' => PlE h 0 Ls w e w' := by
  have HS := Lib.hid hs
  clear hs
  obtain ⟨N, hN⟩ : ∃ N, N = Ls.length := ⟨_, rfl⟩
  rw [← hN] at hc ⊢
  have HN := Lib.hid hN
  clear hN
  go_enter Try.func12, Try.ntmps12
  go_wp2_with fail
  go_step3
  go_wp2_with fail
  refine (HS.out _).mono ?_
  rintro e w' ⟨rfl, rfl⟩
  go_wp2_with fail
  rw [Exit.noGoto_ret]
  go_ret
  exact ⟨false, rfl, ⟨fun e => (by cases e), fun e => by have := e.1; omega⟩, Below.refl _ _⟩
set_option maxHeartbeats 2000000 in
set_option maxRecDepth 20000 in
theorem placed_any {w : World} {base n c : Nat} {b : Int} {A : Option Addr} {Ls : List (List Ent)} (h : Nat → Nat)
    (hs : ∀ w, Calls Try.prog 20 #[.int .i64 b] w fun e w' => e = .returned (.int .i64 (n : Nat)) ∧ w = w')
    (hh : ∀ (k : Nat) w, k < 4294967296 → Calls Try.prog 16 #[.int .u32 k, .int .i64 b] w fun e w' => e = .returned (.int .i64 (h k : Nat)) ∧ w = w')
    (hn0 : 0 < n) (hn : n ≤ 256) (hq : Qs w base A Ls) (hbase : base ≤ w.heap.size) (hc : Ls.length ≤ c) (hc9 : c ≤ 9223372036854775807) (hkeys : Keys Ls.flatten) :
    Calls Try.prog 12 #[.slice A Ls.length c, .int .i64 b] w fun e w' => PlE h n Ls w e w' := by
  have HS := Lib.hid hs; have HH := Lib.hid hh; have HQ := Lib.hid hq; have HK := Lib.hid hkeys; have HBS := Lib.hid hbase
  clear hs hh hq hkeys hbase
  obtain ⟨N, hN⟩ : ∃ N, N = Ls.length := ⟨_, rfl⟩
  rw [← hN] at hc ⊢
  have HN := Lib.hid hN
  clear hN
  have hn00 : ((n : Int) == 0) = false := by rw [beq_eq_false_iff_ne]; omega
  by_cases hNn : N = n
  · subst hNn
    have hNN : ((N : Int) != (N : Int)) = false := by simp
    go_enter Try.func12, Try.ntmps12
    go_wp2_with fail
    go_step3
    go_wp2_with fail
    refine (HS.out _).mono ?_
    rintro e w' ⟨rfl, rfl⟩
    go_wp2_with fail
    go_step3
    go_wp2_with fail
    go_loopg [6, 23] N (fun q s6 s23 wx => ∃ k : Nat, k ≤ N ∧ q = N - k ∧ s6 = .bool true ∧ s23 = .int .i64 (k : Int) ∧ Below w.heap.size w wx ∧ ∀ i, i < k → ∀ j, j < Ls[i]!.length → h (el Ls[i]! j).k.toNat = i)
    case atStart => exact ⟨0, by omega, rfl, rfl, rfl, Below.refl _ _, fun i hi => by omega⟩
    case round =>
      obtain ⟨k, hk, rfl, rfl, rfl, hb, hpl⟩ := hrel
      have HB := Lib.hid hb; have HPL := Lib.hid hpl
      clear hb hpl
      by_cases hkn : k < N
      · have hkl : k < Ls.length := by have := HN.out; omega
        obtain ⟨g, o, A', c', rfl, hg, cq, hc', hc9', hrd⟩ := (HQ.out.below HB.out HBS.out).at hkl
        obtain ⟨wo, rfl⟩ : ∃ wo : World, wo = wr := ⟨_, rfl⟩
        have HRD := Lib.hid hrd
        have HKI := Lib.hid (fun j => keys_in HK.out hkl (j := j))
        obtain ⟨D, hD⟩ : ∃ D, D = Ls[k]! := ⟨_, rfl⟩
        rw [← hD] at cq hc' HRD HKI
        obtain ⟨M, hM⟩ : ∃ M, M = D.length := ⟨_, rfl⟩
        rw [← hM] at cq hc' HKI
        have HM := Lib.hid hM; have HD := Lib.hid hD
        clear hM hD hrd
        go_wp2_with fail
        go_loopg [6, 30] M (fun q s6 s30 wx => ∃ j : Nat, j ≤ M ∧ q = M - j ∧ s6 = .bool true ∧ s30 = .int .i64 (j : Int) ∧ Below w.heap.size w wx ∧ Below wo.heap.size wo wx ∧ ∀ i, i < j → h (el D i).k.toNat = k)
        case atStart => exact ⟨0, by omega, rfl, rfl, rfl, HB.out, Below.refl _ _, fun i hi => by omega⟩
        case round =>
          obtain ⟨j, hj, rfl, rfl, rfl, hb, hbo, hpl⟩ := hrel
          have HB2 := Lib.hid hb; have HBO := Lib.hid hbo; have HPL2 := Lib.hid hpl
          clear hb hbo hpl
          by_cases hjm : j < M
          · obtain ⟨kk, hkk, hk2⟩ := HKI.out j hjm
            obtain ⟨g1, o1, rfl, hg1, c0, c1, c2⟩ := (HRD.out.below HBO.out (by have := HB.out.size; have := HBS.out; omega)).key (i := j) (by have := HM.out; omega) hkk
            obtain ⟨d, hd⟩ : ∃ d, d = el D j := ⟨_, rfl⟩
            rw [← hd] at c0 c2 hkk
            have HKK := Lib.hid hkk; have HDD := Lib.hid hd
            clear hkk hd
            by_cases heq : h kk = k
            · have he : ((h kk : Nat) : Int) = (k : Int) := by omega
              have hbx : Below wr.heap.size wr (wr.alloc (.cells #[.int .i64 d.t, .int .u32 (kk : Int), .int .u64 d.z] 39)) := below1 _ _
              have HBX := Lib.hid hbx
              clear hbx
              go_wp2_with (go_at_call 16; refine (HH.out kk _ hk2).mono ?_; rintro e w' ⟨rfl, rfl⟩)
              go_roundg (M - (j + 1))
              case measure => omega
              case rel =>
                refine ⟨j + 1, by omega, rfl, rfl, by go_num, HB2.out.trans (HBX.out.mono HB2.out.size), HBO.out.trans (HBX.out.mono HBO.out.size), fun i hi => ?_⟩
                by_cases e : i = j
                · subst e; rw [← HDD.out, HKK.out, Int.toNat_natCast]; exact heq
                · exact HPL2.out i (by omega)
            · have he : (((h kk : Nat) : Int) == (k : Int)) = false := by rw [beq_eq_false_iff_ne]; omega
              go_wp2_with (go_at_call 16; refine (HH.out kk _ hk2).mono ?_; rintro e w' ⟨rfl, rfl⟩)
              rw [Exit.noGoto_ret]
              go_ret
              refine ⟨false, rfl, ⟨fun e => (by cases e), fun e => ?_⟩, HB2.out.trans ((below1 _ _).mono HB2.out.size)⟩
              have := e.2.2 k hkl j (by rw [← HD.out, ← HM.out]; exact hjm)
              rw [← HD.out, ← HDD.out, HKK.out, Int.toNat_natCast] at this
              exact (heq this).elim
          · obtain rfl : j = M := by omega
            go_wp2_with fail
            go_roundg (N - (k + 1))
            case measure => omega
            case rel =>
              refine ⟨k + 1, by omega, rfl, rfl, by go_num, HB2.out, fun i hi => ?_⟩
              by_cases e : i = k
              · subst e; rw [← HD.out, ← HM.out]; exact HPL2.out
              · exact HPL.out i (by omega)
      · obtain rfl : k = N := by omega
        go_wp2_with fail
        rw [Exit.noGoto_ret]
        go_ret
        exact ⟨true, rfl, ⟨fun _ => ⟨hn0, HN.out.symm, fun i hi => HPL.out i (by rw [HN.out]; exact hi)⟩, fun _ => rfl⟩, HB.out⟩
  · have hNN : (N : Int) ≠ (n : Int) := by omega
    go_enter Try.func12, Try.ntmps12
    go_wp2_with fail
    go_step3
    go_wp2_with fail
    refine (HS.out _).mono ?_
    rintro e w' ⟨rfl, rfl⟩
    go_wp2_with fail
    rw [Exit.noGoto_ret]
    go_ret
    exact ⟨false, rfl, ⟨fun e => (by cases e), fun e => by have := HN.out; omega⟩, Below.refl _ _⟩
end Go.Proofs.Ytjblpdnhkoemjaa
