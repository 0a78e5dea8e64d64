/- RehashesKeep's walk. -/
import Derived.Test.YtjblpdnhkoemjaaK3
namespace Go.Proofs.Ytjblpdnhkoemjaa
open Go.RowKit

/-- One queue of queues that are read. -/
theorem Qs.sub {w : World} {base g o : Nat} {Ls : List (List Ent)} (h : Qs w base (some ⟨g, o, none⟩) Ls) {i : Nat} (hi : i < Ls.length) : Qs w base (some ⟨g, o + i, none⟩) [Ls[i]!] := by
  obtain ⟨ss, h0, h1, h2⟩ := h
  obtain ⟨g', o', e, hg, hl⟩ := h1 (by omega)
  cases e
  obtain ⟨A', c, e, hc, hc', hr⟩ := h2 i hi
  refine ⟨[.slice A' Ls[i]!.length c], rfl, fun _ => ⟨_, _, rfl, hg, fun j u hu => ?_⟩, fun j hj => ?_⟩
  · obtain rfl : j = 0 := by have := (List.getElem?_eq_some_iff.1 hu).1; simpa using this
    rw [List.getElem?_cons_zero] at hu
    injection hu with hu
    subst hu
    exact hl i _ e
  · obtain rfl : j = 0 := by simpa using hj
    exact ⟨A', c, rfl, hc, hc', hr⟩
theorem kits : ∃ h : Nat → Nat → Nat, (∀ k : Nat, 2 ≤ k → k ≤ 8 → Kit (k : Int) (2 ^ k) (h k)) ∧ ∀ b : Nat, b < 64 → ∀ k, h (b + 1) k / 2 = h b k := by
  obtain ⟨h, h1, h2, h3, h4, -⟩ := hash_kit
  refine ⟨h, fun k hk hk8 => ?_, h4⟩
  have hz : sizeN (k : Int) = 2 ^ k := by unfold sizeN; rw [if_pos (by omega)]; rfl
  refine ⟨fun w => ?_, fun w => ?_, fun _ => h1 k (by omega) (by omega), fun _ => h2 k (by omega) (by omega), fun _ x _ => h3 k (by omega) x, pow_bits k (by omega)⟩
  · rw [← hz]; exact size_any k w
  · rw [← hz]; exact rsize_any k w
theorem kit_in (b : Int) (h2 : 2 ≤ b) (h8 : b ≤ 8) : ∃ n h, Kit b n h ∧ 0 < n := by
  obtain ⟨h, hk, -⟩ := kits
  obtain ⟨k, rfl⟩ := Int.eq_ofNat_of_zero_le (show 0 ≤ b by omega)
  exact ⟨_, _, hk k (by omega) (by omega), Nat.pow_pos (by omega)⟩
set_option maxHeartbeats 4000000 in
set_option maxRecDepth 20000 in
theorem law_keep {W : World} {c : Nat} (bt : Nat) (hbt : bt < 256) {A : Option Addr} {Ls : List (List Ent)} (hq : Qs W W.heap.size A Ls) (hc : Ls.length ≤ c) (hc9 : c ≤ 9223372036854775807) (hkeys : Keys Ls.flatten) :
    Calls Try.prog 4 #[.slice A Ls.length c, .int .u8 (bt : Int)] W fun e w' => e = .returned (.bool true) ∧ Below W.heap.size W w' := by
  have HF := Lib.hid (few_any hq hc hc9)
  have HQ := Lib.hid hq; have HK := Lib.hid hkeys; have HC := Lib.hid hc
  clear hq hkeys hc
  obtain ⟨N, hN⟩ : ∃ N, N = Ls.length := ⟨_, rfl⟩
  rw [← hN] at HF HC ⊢
  have HN := Lib.hid hN
  clear hN
  go_enter Try.func4, Try.ntmps4
  go_wp2_with fail
  refine HF.out.mono ?_
  rintro e w0 ⟨f, rfl, rfl, hf⟩
  cases f with
  | false =>
    clear hf HF
    go_wp2_with fail
    refine (lives_any W).mono ?_
    rintro e w1 ⟨rfl, hb⟩
    have HB := Lib.hid hb
    clear hb
    go_wp2_with fail
    go_ret
    exact ⟨rfl, HB.out⟩
  | true =>
    obtain ⟨hf60, hf300, hf600⟩ := hf rfl
    have HF60 := Lib.hid hf60; have HF3 := Lib.hid hf300; have HF6 := Lib.hid hf600
    clear hf hf60 hf300 hf600 HF
    go_wp2_with fail
    obtain ⟨b, hb⟩ : ∃ b : Int, b = 2 + (bt : Int) % 7 := ⟨_, rfl⟩
    rw [← hb]
    obtain ⟨n, h, K, hn0⟩ := kit_in b (by omega) (by omega)
    have HKIT := Lib.hid K
    have hnf := K.few
    have H2 := Lib.hid (rehash_all K HQ.out (Nat.le_refl _) (by rw [← HN.out]; exact HC.out) hc9 HK.out (by have := HF3.out; omega) (by have := HF6.out; omega))
    rw [← HN.out] at H2
    clear K hb hbt
    refine H2.out.mono ?_
    clear H2
    rintro e w2 ⟨sa, ssa, rfl, hta, -, hb2⟩
    obtain ⟨Aa, ca, rfl, hca, hca9⟩ := hta.shape
    rw [reh_len] at hca hta ⊢
    have HTA := Lib.hid hta; have HB2 := Lib.hid hb2
    have h3 := placed_all HKIT.out hta.rd.2 (Nat.le_refl _) (by rw [reh_len]; exact hca) hca9 (keys_bk HK.out n)
    rw [reh_len] at h3
    have H3 := Lib.hid h3
    clear hta hb2 h3
    go_wp2_with fail
    refine H3.out.mono ?_
    clear H3
    rintro e w3 ⟨f3, rfl, hf3, hb3⟩
    obtain rfl : f3 = true := hf3.2 ⟨hn0, reh_len _ _ _, pl_reh _ _ _⟩
    have HB3 := Lib.hid hb3
    have ht3 := HTA.out.new hb3
    have h4 := many_any ht3.rd.2 (by rw [reh_len]; exact hca) hca9 (by rw [reh_total _ _ _ HK.out (HKIT.out.lt hn0)]; have := HF6.out; omega)
    rw [reh_len, reh_total _ _ _ HK.out (HKIT.out.lt hn0)] at h4
    have hbw3 := HB2.out.trans (hb3.mono HB2.out.size)
    have h5 := many_any (HQ.out.below hbw3 (Nat.le_refl _)) (by rw [← HN.out]; exact HC.out) hc9 (by have := HF6.out; omega)
    rw [← HN.out] at h5
    obtain ⟨T, hT⟩ : ∃ T, T = Ls.flatten.length := ⟨_, rfl⟩
    rw [← hT] at h4 h5
    have htt : ((T : Int) != (T : Int)) = false := by simp
    have H4 := Lib.hid h4; have H5 := Lib.hid h5; have HT3 := Lib.hid ht3; have HBW3 := Lib.hid hbw3
    clear hf3 hb3 ht3 h4 h5 hbw3 hT
    go_wp2_with fail
    refine H4.out.mono ?_
    clear H4
    rintro e w4 ⟨rfl, rfl⟩
    go_wp2_with fail
    refine H5.out.mono ?_
    clear H5
    rintro e w5 ⟨rfl, rfl⟩
    go_wp2_with fail
    clear htt
    have hN3 : N ≤ 300 := by have := HF3.out; have := HN.out; omega
    go_loopg [7] N (fun q s7 wx => ∃ i : Nat, i ≤ N ∧ q = N - i ∧ s7 = .int .i64 (i : Int) ∧ Tab wx W.heap.size (.slice Aa n ca) ssa (reh h n Ls.flatten) ∧ Below W.heap.size W wx)
    case atStart => exact ⟨0, by omega, rfl, rfl, HT3.out, HBW3.out⟩
    case round =>
      obtain ⟨i, hi, rfl, rfl, ht, hbx⟩ := hrel
      have HT := Lib.hid ht; have HB := Lib.hid hbx
      clear ht hbx
      obtain ⟨wm, rfl⟩ : ∃ wm : World, wm = wr := ⟨_, rfl⟩
      by_cases hiN : i < N
      · have hil : i < Ls.length := by have := HN.out; omega
        obtain ⟨g, o, A', c', hAA, hg, cq0, hc', hc9', hrd⟩ := HQ.out.at hil
        subst hAA
        have HRD := Lib.hid hrd
        have HKI := Lib.hid (fun j => keys_in HK.out hil (j := j))
        obtain ⟨D, hD⟩ : ∃ D, D = Ls[i]! := ⟨_, rfl⟩
        rw [← hD] at cq0 hc' HRD HKI
        obtain ⟨M, hM⟩ : ∃ M, M = D.length := ⟨_, rfl⟩
        rw [← hM] at cq0 hc' HKI
        have HM := Lib.hid hM
        have cq : wm.cell? ⟨g, o + i, none⟩ = some (.slice A' M c') := (HB.out.cell (p := ⟨g, o + i, none⟩) hg).trans cq0
        have CQ0 := Lib.hid cq0
        clear cq0 hM hD hrd
        go_wp2_with fail
        go_loopg [8] M (fun q s8 wx => ∃ j : Nat, j ≤ M ∧ q = M - j ∧ s8 = .int .i64 (j : Int) ∧ Tab wx W.heap.size (.slice Aa n ca) ssa (reh h n Ls.flatten) ∧ Below W.heap.size W wx)
        case atStart => exact ⟨0, by omega, rfl, rfl, HT.out, HB.out⟩
        case round =>
          obtain ⟨j, hj, rfl, rfl, ht, hbx⟩ := hrel
          have HT3 := Lib.hid ht; have HBX := Lib.hid hbx
          clear ht hbx
          have cq3 : wr.cell? ⟨g, o + i, none⟩ = some (.slice A' M c') := (HBX.out.cell (p := ⟨g, o + i, none⟩) hg).trans CQ0.out
          by_cases hjm : j < M
          · obtain ⟨kk, hkk, hk2⟩ := HKI.out j hjm
            obtain ⟨g1, o1, rfl, hg1, c0, c1, c2⟩ := (HRD.out.below HBX.out (Nat.le_refl _)).key (i := j) (by have := HM.out; omega) hkk
            have hat := HKIT.out.lt hn0 kk hk2
            have HHH := Lib.hid (HKIT.out.hash hn0 kk wr hk2)
            obtain ⟨at_, hate⟩ : ∃ x, x = h kk := ⟨_, rfl⟩
            rw [← hate] at hat HHH
            have hat' : (at_ : Int) < (n : Int) := by omega
            have HAT := Lib.hid hate
            clear hate hkk
            go_wp2_with fail
            refine HHH.out.mono ?_
            rintro e w6 ⟨rfl, rfl⟩
            obtain ⟨F, hF⟩ : ∃ F, F = kf (kk : Int) Ls.flatten := ⟨_, rfl⟩
            have hka : ∀ Wx, Below wr.heap.size wr Wx → Calls Try.prog 18 #[.slice Aa n ca, .int .u32 (kk : Int)] Wx fun e w' => ∃ s, e = .returned s ∧ RowE w' Wx.heap.size s F ∧ Below Wx.heap.size Wx w' := fun Wx hbx => by
              have := keyed_any kk (HT3.out.new hbx).rd.2 (Nat.le_refl _) (by rw [reh_len]; exact hca) hca9 (by rw [reh_len]; have := HKIT.out.few; omega) (by rw [reh_total _ _ _ HK.out (HKIT.out.lt hn0)]; have := HF6.out; omega)
              rwa [reh_len, kf_reh _ _ _ _ (HKIT.out.lt hn0 kk hk2), ← hF] at this
            have hkl : ∀ Wx, Below wr.heap.size wr Wx → Calls Try.prog 18 #[.slice (some ⟨g, o, none⟩) N c, .int .u32 (kk : Int)] Wx fun e w' => ∃ s, e = .returned s ∧ RowE w' Wx.heap.size s F ∧ Below Wx.heap.size Wx w' := fun Wx hbx => by
              have hbw := HBX.out.trans (hbx.mono HBX.out.size)
              have := keyed_any kk (HQ.out.below hbw (Nat.le_refl _)) hbw.size (by rw [← HN.out]; exact HC.out) hc9 (by have := HF3.out; omega) (by have := HF6.out; omega)
              rwa [← HN.out, ← hF] at this
            obtain ⟨ga, oa, Aq, cq', hAa, _, _, _, _⟩ := HT3.out.at (i := at_) (by rw [reh_len]; exact hat)
            subst hAa
            have hks : ∀ Wx, Below wr.heap.size wr Wx → Calls Try.prog 18 #[.slice (some ⟨ga, oa + at_, none⟩) 1 (ca - at_), .int .u32 (kk : Int)] Wx fun e w' => ∃ s, e = .returned s ∧ RowE w' Wx.heap.size s F ∧ Below Wx.heap.size Wx w' := fun Wx hbx => by
              have := keyed_any (c := ca - at_) kk ((HT3.out.new hbx).rd.2.sub (i := at_) (by rw [reh_len]; exact hat)) (Nat.le_refl _) (by simp; omega) (by omega) (by simp) (by
                rw [reh_at _ _ hat]
                have := bk_le h at_ Ls.flatten
                have := HF6.out
                simp; omega)
              have e1 : ([(reh h n Ls.flatten)[at_]!] : List (List Ent)).flatten = bk h at_ Ls.flatten := by rw [reh_at _ _ hat]; simp
              rw [e1, kf_bk, if_pos HAT.out, ← hF] at this
              exact this
            have HKA := Lib.hid hka; have HKL := Lib.hid hkl; have HKS := Lib.hid hks
            have hFl : F.length ≤ 1000000 := by rw [hF]; have := kf_le (kk : Int) Ls.flatten; have := HF6.out; omega
            have HFL := Lib.hid hFl
            clear hka hkl hks hF hFl
            go_wp2_with fail
            refine (HKA.out wr (Below.refl _ _)).mono ?_
            rintro e w7 ⟨s7, rfl, hr7, hb7⟩
            obtain ⟨A7, c7, rfl, hx7, hy7⟩ := hr7.shape
            have HR7 := Lib.hid hr7; have HB7 := Lib.hid hb7
            clear hr7 hb7
            go_wp2_with fail
            refine (HKL.out w7 HB7.out).mono ?_
            rintro e w8 ⟨s8, rfl, hr8, hb8⟩
            obtain ⟨A8, c8, rfl, hx8, hy8⟩ := hr8.shape
            have HR8 := Lib.hid hr8; have HB8 := Lib.hid hb8
            clear hr8 hb8
            have B8 := Lib.hid (HB7.out.trans (HB8.out.mono HB7.out.size))
            have H9 := Lib.hid (alike_any (w := w8) c7 c8 (HR7.out.rd.below HB8.out (Nat.le_refl _)) HR8.out.rd HB8.out.size (Nat.le_refl _) HFL.out)
            go_wp2_with fail
            refine H9.out.mono ?_
            rintro e w9 ⟨rfl, hb9⟩
            have B9 := Lib.hid (B8.out.trans (hb9.mono B8.out.size))
            clear hb9 H9
            go_wp2_with fail
            refine (HKS.out w9 B9.out).mono ?_
            rintro e w10 ⟨s10, rfl, hr10, hb10⟩
            obtain ⟨A10, c10, rfl, hx10, hy10⟩ := hr10.shape
            have HR10 := Lib.hid hr10; have HB10 := Lib.hid hb10
            clear hr10 hb10
            have B10 := Lib.hid (B9.out.trans (HB10.out.mono B9.out.size))
            go_wp2_with fail
            refine (HKL.out w10 B10.out).mono ?_
            rintro e w11 ⟨s11, rfl, hr11, hb11⟩
            obtain ⟨A11, c11, rfl, hx11, hy11⟩ := hr11.shape
            have HR11 := Lib.hid hr11; have HB11 := Lib.hid hb11
            clear hr11 hb11
            have B11 := Lib.hid (B10.out.trans (HB11.out.mono B10.out.size))
            have H12 := Lib.hid (alike_any (w := w11) c10 c11 (HR10.out.rd.below HB11.out (Nat.le_refl _)) HR11.out.rd HB11.out.size (Nat.le_refl _) HFL.out)
            go_wp2_with fail
            refine H12.out.mono ?_
            rintro e w12 ⟨rfl, hb12⟩
            have B12 := Lib.hid (B11.out.trans (hb12.mono B11.out.size))
            clear hb12 H12
            go_wp2_with fail
            go_roundg (M - (j + 1))
            case measure => omega
            case rel => exact ⟨j + 1, by omega, rfl, by go_num, HT3.out.new B12.out, HBX.out.trans (B12.out.mono HBX.out.size)⟩
          · obtain rfl : j = M := by omega
            go_wp2_with fail
            go_roundg (N - (i + 1))
            case measure => omega
            case rel => exact ⟨i + 1, by omega, rfl, by go_num, HT3.out, HBX.out⟩
      · obtain rfl : i = N := by omega
        go_wp2_with fail
        refine (lives_any wm).mono ?_
        rintro e w7 ⟨rfl, hb7⟩
        have HB7 := Lib.hid hb7
        clear hb7
        go_wp2_with fail
        go_ret
        exact ⟨rfl, HB.out.trans (HB7.out.mono HB.out.size)⟩
end Go.Proofs.Ytjblpdnhkoemjaa
