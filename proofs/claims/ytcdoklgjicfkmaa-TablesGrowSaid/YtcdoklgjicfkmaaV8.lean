/- TablesPlay's walk. -/
import Derived.Test.YtcdoklgjicfkmaaV7
namespace Go.Proofs.Ytcdoklgjicfkmaa
open Go.RowKit

/-- An act that came in. -/
structure Ac where
  kd : Nat
  b : Int
  i : Int
  t : Int
  now : Int
  ta : Int
  tf : Int
  A : Option Addr
  c : Nat
  D : List Ent
def ActsIn (w : World) (base : Nat) (A : Option Addr) (n : Nat) (Y : Nat → Ac) : Prop := 0 < n → ∃ g o, A = some ⟨g, o, none⟩ ∧ g < base ∧ ∀ i, i < n →
  w.cell? ⟨g, o + i * 8, none⟩ = some (.int .u8 ((Y i).kd : Int)) ∧ w.cell? ⟨g, o + i * 8 + 1, none⟩ = some (.int .i64 (Y i).b) ∧ w.cell? ⟨g, o + i * 8 + 2, none⟩ = some (.int .i64 (Y i).i) ∧ w.cell? ⟨g, o + i * 8 + 3, none⟩ = some (.int .i64 (Y i).t) ∧
  w.cell? ⟨g, o + i * 8 + 4, none⟩ = some (.int .u64 (Y i).now) ∧ w.cell? ⟨g, o + i * 8 + 5, none⟩ = some (.slice (Y i).A (Y i).D.length (Y i).c) ∧ w.cell? ⟨g, o + i * 8 + 6, none⟩ = some (.int .u64 (Y i).ta) ∧ w.cell? ⟨g, o + i * 8 + 7, none⟩ = some (.int .u64 (Y i).tf)
def AcOk (w : World) (base : Nat) (y : Ac) : Prop := InI y.b ∧ InI y.t ∧ y.D.length ≤ y.c ∧ y.c ≤ 9223372036854775807 ∧ Rd w base y.A (flat y.D) ∧ Keys y.D
theorem play_big {W : World} (now : Int) (A : Option Addr) (n c : Nat) (h : 60 < n) (hn9 : n ≤ 9223372036854775807) : Calls Try.prog 3 #[.int .u64 now, .slice A n c] W fun e w' => e = .returned (.bool true) ∧ Below W.heap.size W w' := by
  have g1 : decide ((60 : Int) < (n : Int)) = true := by simp; omega
  have QL := Lib.hid lives_any
  go_enter Try.func3, Try.ntmps3
  go_wp2_with fail
  refine (QL.out _).mono ?_
  rintro e w2 ⟨rfl, b2⟩
  have B2 := Lib.hid b2
  clear b2
  go_wp2_with fail
  go_ret
  exact ⟨rfl, B2.out⟩
set_option maxHeartbeats 4000000 in
set_option maxRecDepth 20000 in
theorem law_play {W : World} (now : Int) (A : Option Addr) (n c : Nat) (Y : Nat → Ac) (hin : ActsIn W W.heap.size A n Y) (hok : ∀ i, i < n → AcOk W W.heap.size (Y i)) (hn : n ≤ 60) : Calls Try.prog 3 #[.int .u64 now, .slice A n c] W fun e w' => e = .returned (.bool true) ∧ Below W.heap.size W w' := by
  have QL := Lib.hid lives_any
  have HIN := Lib.hid hin; have HOK := Lib.hid hok
  clear hin hok
  have g1 : decide ((60 : Int) < (n : Int)) = false := by simp; omega
  go_enter Try.func3, Try.ntmps3
  go_wp2_with fail
  refine (new_any now _).mono ?_
  rintro e w1 ⟨s, own, rfl, hs1, hb1⟩
  have HS1 := Lib.hid hs1; have HB1 := Lib.hid hb1
  clear hs1 hb1
  go_wp2_with fail
  refine (rnew_any now _).mono ?_
  rintro e w2 ⟨r, ownR, rfl, hr2, hb2⟩
  have hle := HB1.out.size
  have hsc : Sc w2 W.heap.size own ownR s r 1 (M0 now) (M0 now) (fun _ => False) := by
    refine ⟨HS1.out.new hb2, ?_, fun g h1 h2 => ?_, fun g h => h.elim⟩
    · obtain ⟨rb, Q, T, V, h⟩ := hr2
      exact ⟨rb, Q, T, V, ⟨fun g r e => by have := h.fp g r e; omega, h.hs, h.os, h.hQ, h.hT, h.no, h.hq, h.ht, h.hv, h.oq, h.ot, h.ov⟩⟩
    · have := (HS1.out.fp h1).2; have := (hr2.fp h2).1; omega
  have HSC := Lib.hid hsc
  have HB2 := Lib.hid (HB1.out.trans (hb2.mono hle))
  clear hsc hr2 hb2 hle
  go_wp2_with fail
  go_loopg [7] n (fun q s7 wx => ∃ (k : Nat) (own' ownR' : Nat → Option Role) (m : Nat) (M : Int → List Bk), k ≤ n ∧ q = n - k ∧ s7 = .int .i64 (k : Int) ∧ Sc wx W.heap.size own' ownR' s r m M M (fun _ => False) ∧ Good M (60 * k) ∧ m ≤ k + 1 ∧ Below W.heap.size W wx)
  case atStart => exact ⟨0, own, ownR, 1, M0 now, by omega, rfl, rfl, HSC.out, good_first now, by omega, HB2.out⟩
  case round =>
    obtain ⟨k, own', ownR', m, M, hk, rfl, rfl, hsc, hg, hm, hb⟩ := hrel
    have HSCK := Lib.hid hsc; have HG := Lib.hid hg; have HM := Lib.hid hm; have HB := Lib.hid hb
    clear hsc hg hm hb
    by_cases hkn : k < n
    · obtain ⟨g, o, rfl, hgl, hcells⟩ := HIN.out (by omega)
      obtain ⟨c0, c1, c2, c3, c4, c5, c6, c7⟩ := hcells k hkn
      obtain ⟨hI1, hI2, hlc, hc9, hrd, hkeys⟩ := HOK.out k hkn
      generalize Y k = y at *
      obtain ⟨kd, pb, pi, tg, ynow, ta, tf, yA, yc, D⟩ := y
      dsimp only at c0 c1 c2 c3 c4 c5 c6 c7 hI1 hI2 hlc hc9 hrd hkeys
      obtain ⟨nd, hnd⟩ : ∃ nd, nd = D.length := ⟨_, rfl⟩
      rw [← hnd] at c5 hlc
      replace c0 := (HB.out.cell (p := ⟨g, o + k * 8, none⟩) hgl).trans c0
      replace c1 := (HB.out.cell (p := ⟨g, o + k * 8 + 1, none⟩) hgl).trans c1
      replace c2 := (HB.out.cell (p := ⟨g, o + k * 8 + 2, none⟩) hgl).trans c2
      replace c3 := (HB.out.cell (p := ⟨g, o + k * 8 + 3, none⟩) hgl).trans c3
      replace c4 := (HB.out.cell (p := ⟨g, o + k * 8 + 4, none⟩) hgl).trans c4
      replace c5 := (HB.out.cell (p := ⟨g, o + k * 8 + 5, none⟩) hgl).trans c5
      replace c6 := (HB.out.cell (p := ⟨g, o + k * 8 + 6, none⟩) hgl).trans c6
      replace c7 := (HB.out.cell (p := ⟨g, o + k * 8 + 7, none⟩) hgl).trans c7
      have HND := Lib.hid hnd; have HKEYS := Lib.hid hkeys
      have HRD := Lib.hid (hrd.below HB.out (Nat.le_refl _))
      clear hcells hrd hkeys hnd
      by_cases hbig : 60 < nd
      · have g2 : decide ((60 : Int) < (nd : Int)) = true := by simp; omega
        clear hbig
        go_wp2_with fail
        refine (QL.out _).mono ?_
        rintro e w3 ⟨rfl, b3⟩
        have B3 := Lib.hid b3
        clear b3
        go_wp2_with fail
        go_ret
        exact ⟨rfl, HB.out.trans (B3.out.mono HB.out.size)⟩
      · have g2 : decide ((60 : Int) < (nd : Int)) = false := by simp; omega
        have hnd60 : nd ≤ 60 := by omega
        have hdo := do_any HSCK.out HG.out (by have := HM.out; omega) (by have := HM.out; omega) kd hI1 hI2 pi ynow ta tf yA nd yc HRD.out (Nat.le_refl _) HND.out.symm HKEYS.out hnd60
        have HDO := Lib.hid hdo
        clear hbig hdo
        go_wp2_with fail
        refine HDO.out.mono ?_
        rintro e w3 ⟨rfl, own3, ownR3, m3, M3, hsc3, hg3, hm3, hb3, -⟩
        have HSC3 := Lib.hid hsc3; have HG3 := Lib.hid hg3; have HM3 := Lib.hid hm3; have HB3 := Lib.hid (HB.out.trans hb3)
        obtain ⟨PD, hPD, hp, hrp⟩ := places_all HG3.out (by omega) ((k : Int) % 5)
        obtain ⟨np, hnp⟩ : ∃ np, np = PD.length := ⟨_, rfl⟩
        have HNP := Lib.hid hnp; have HPD := Lib.hid hPD
        rw [← hnp] at hp
        have HP := Lib.hid (hp w3 W.heap.size own3 s m3 HSC3.out.st)
        have HRP := Lib.hid hrp
        clear hsc3 hg3 hm3 hb3 hp hrp hnp hPD c0 c1 c2 c3 c4 c5 c6 c7
        go_wp2_with fail
        refine HP.out.mono ?_
        rintro e w4 ⟨A4, rfl, hr4, hb4⟩
        have HSC4 := Lib.hid (HSC3.out.new hb4)
        have HR4 := Lib.hid hr4; have HB4 := Lib.hid (HB3.out.trans (hb4.mono HB3.out.size))
        clear hr4 hb4
        go_wp2_with fail
        refine (HRP.out w4 W.heap.size ownR3 r HSC4.out.rt).mono ?_
        rintro e w5 ⟨s5, rfl, hr5, hb5⟩
        obtain ⟨A5, c5, hse, hc5, hc59⟩ := hr5.shape
        rw [← HNP.out] at hse hc5
        subst hse
        have HSC5 := Lib.hid (HSC4.out.new hb5)
        have HR5 := Lib.hid hr5; have HC5 := Lib.hid hb5; have HB5 := Lib.hid (HB4.out.trans (hb5.mono HB4.out.size))
        clear hr5 hb5
        have hsm : Calls Try.prog 11 #[.slice A4 np np, .slice A5 np c5] w5 fun e w' => e = .returned (.bool true) ∧ Below w5.heap.size w5 w' := by
          have h4 := HR4.out.new HC5.out
          have h5 := HR5.out
          rw [HNP.out] at h4 h5 ⊢
          exact samePlaces_any c5 h4.rd h5.rd (Nat.le_refl _) (Nat.le_refl _) HPD.out
        have HSM := Lib.hid hsm
        clear hsm
        go_wp2_with fail
        refine HSM.out.mono ?_
        rintro e w6 ⟨rfl, hb6⟩
        have HSC6 := Lib.hid (HSC5.out.new hb6)
        have HB6 := Lib.hid (HB5.out.trans (hb6.mono HB5.out.size))
        clear hb6
        go_wp2_with fail
        go_roundg (n - (k + 1))
        case measure => omega
        case rel => exact ⟨k + 1, own3, ownR3, m3, M3, by omega, rfl, by go_num, HSC6.out, HG3.out.mono (by omega), by have := HM.out; have := HM3.out; omega, HB6.out⟩
    · obtain rfl : k = n := by omega
      have HSS := Lib.hid (same_sets HSCK.out HG.out (by omega))
      go_wp2_with fail
      refine HSS.out.mono ?_
      rintro e w3 ⟨rfl, hb3⟩
      have HB3 := Lib.hid (HB.out.trans (hb3.mono HB.out.size))
      clear hb3
      go_wp2_with fail
      refine (QL.out _).mono ?_
      rintro e w4 ⟨rfl, hb4⟩
      have HB4 := Lib.hid (HB3.out.trans (hb4.mono HB3.out.size))
      clear hb4
      go_wp2_with fail
      go_ret
      exact ⟨rfl, HB4.out⟩
end Go.Proofs.Ytcdoklgjicfkmaa
