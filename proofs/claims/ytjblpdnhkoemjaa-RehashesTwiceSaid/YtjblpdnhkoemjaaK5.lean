/- RehashesTwice's walk. -/
import Derived.Test.YtjblpdnhkoemjaaK4
import Derived.Test.YtjblpdnhkoemjaaM3
namespace Go.Proofs.Ytjblpdnhkoemjaa
open Go.RowKit

/-- Rehashed queues of a call's own, rehashed on. -/
theorem on_any {w : World} {base c : Nat} {A : Option Addr} {ss : List Value} {E : List Ent} {h : Nat → Nat → Nat} (hk : ∀ k : Nat, 2 ≤ k → k ≤ 8 → Kit (k : Int) (2 ^ k) (h k)) (hh : ∀ b : Nat, b < 64 → ∀ k, h (b + 1) k / 2 = h b k)
    (p q : Nat) (hp : 2 ≤ p) (hpq : p ≤ q) (hq8 : q ≤ 8) (ht : Tab w base (.slice A (2 ^ p) c) ss (reh (h p) (2 ^ p) E)) (hc : 2 ^ p ≤ c) (hc9 : c ≤ 9223372036854775807) (hkeys : Keys E) (hlen : E.length ≤ 1000) :
    Calls Try.prog 9 #[.slice A (2 ^ p : Nat) c, .int .i64 (q : Int)] w fun e w' => ∃ s ss, e = .returned s ∧ Tab w' w.heap.size s ss (reh (h q) (2 ^ q) E) ∧ Below w.heap.size w w' := by
  have hlt := (hk p hp (by omega)).lt (Nat.pow_pos (by omega))
  have hl : (reh (h p) (2 ^ p) E).flatten.length = E.length := reh_total _ _ _ hkeys hlt
  have hn := (hk p hp (by omega)).few
  have := rehash_all (hk q (by omega) hq8) ht.rd.2 (Nat.le_refl _) (by rw [reh_len]; exact hc) hc9 (keys_bk hkeys _) (by rw [reh_len]; omega) (by omega)
  rw [reh_len] at this
  refine this.mono ?_
  rintro e w' ⟨s, ss', he, ht', _, hb⟩
  obtain ⟨d, rfl⟩ := Nat.exists_eq_add_of_le hpq
  rw [reh_reh (f := fun x => x / 2 ^ d) (fun k => half_on hh p d (by omega) k) _ hkeys hlt] at ht'
  exact ⟨s, ss', he, ht', hb⟩
set_option maxHeartbeats 8000000 in
set_option maxRecDepth 100000 in
theorem law_twice {W : World} {c : Nat} (ft tt : Nat) (hft : ft < 256) (htt : tt < 256) {A : Option Addr} {Ls : List (List Ent)} (hq : Qs W W.heap.size A Ls) (hc : Ls.length ≤ c) (hc9 : c ≤ 9223372036854775807) (hkeys : Keys Ls.flatten) :
    Calls Try.prog 5 #[.slice A Ls.length c, .int .u8 (ft : Int), .int .u8 (tt : Int)] W fun e w' => e = .returned (.bool true) ∧ Below W.heap.size W w' := by
  have HF := Lib.hid (few_any hq hc hc9)
  have HQ := Lib.hid hq; have HK := Lib.hid hkeys; have HC := Lib.hid hc
  clear hq hkeys hc
  obtain ⟨N, hN⟩ : ∃ N, N = Ls.length := ⟨_, rfl⟩
  rw [← hN] at HF HC ⊢
  have HN := Lib.hid hN
  clear hN
  obtain ⟨h, hkit, hhalf⟩ := kits
  have HKIT := Lib.hid hkit; have HHALF := Lib.hid hhalf
  clear hkit hhalf
  go_enter Try.func5, Try.ntmps5
  go_wp2_with fail
  refine HF.out.mono ?_
  rintro e w0 ⟨f, rfl, rfl, hf⟩
  cases f with
  | false =>
    clear hf HF
    go_wp2_with fail
    refine (lives_any W).mono ?_
    rintro e w1 ⟨rfl, hb⟩
    have HB := Lib.hid hb
    clear hb
    go_wp2_with fail
    go_ret
    exact ⟨rfl, HB.out⟩
  | true =>
    obtain ⟨hf60, hf300, hf600⟩ := hf rfl
    have HF60 := Lib.hid hf60; have HF3 := Lib.hid hf300; have HF6 := Lib.hid hf600
    clear hf hf60 hf300 hf600 HF
    go_upto_region 4 with (fail)
    obtain ⟨p0, hp0⟩ : ∃ p : Nat, 2 + (ft : Int) % 6 = (p : Int) := ⟨2 + ft % 6, by omega⟩
    have hp2 : 2 ≤ p0 := by omega
    have hp7 : p0 ≤ 7 := by omega
    rw [hp0]
    obtain ⟨r0, hr0⟩ : ∃ r : Nat, r = 8 - p0 := ⟨_, rfl⟩
    have hr1 : (8 : Int) - (p0 : Int) = (r0 : Int) := by omega
    have hr2 : ¬ r0 = 0 := by omega
    obtain ⟨m0, hm0⟩ : ∃ m : Nat, wrap64 ((p0 : Int) + 1 + (tt : Int) % (r0 : Int)) = (m : Int) ∧ p0 < m ∧ m ≤ 8 := by
      have h1 : 0 ≤ (tt : Int) % (r0 : Int) := Int.emod_nonneg _ (by omega)
      have h2 : (tt : Int) % (r0 : Int) < (r0 : Int) := Int.emod_lt_of_pos _ (by omega)
      refine ⟨p0 + 1 + ((tt : Int) % (r0 : Int)).toNat, ?_, by omega, by omega⟩
      unfold wrap64
      omega
    obtain ⟨hm0, hpm, hm8⟩ := hm0
    clear hp0 hr0
    go_wp2_with fail
    rw [hm0]
    clear hm0 hr1 hr2 hft htt
    have h2 := rehash_all (HKIT.out p0 hp2 (by omega)) HQ.out (Nat.le_refl _) (by rw [← HN.out]; exact HC.out) hc9 HK.out (by have := HF3.out; omega) (by have := HF6.out; omega)
    rw [← HN.out] at h2
    refine h2.mono ?_
    clear h2
    rintro e w2 ⟨sa, ssa, rfl, hta, -, hb2⟩
    obtain ⟨Aa, ca, rfl, hca, hca9⟩ := hta.shape
    rw [reh_len] at hca hta ⊢
    obtain ⟨E, hE⟩ : ∃ E, E = Ls.flatten := ⟨_, rfl⟩
    rw [← hE] at hta HK HF6
    have HTA := Lib.hid hta; have HB2 := Lib.hid hb2
    have HNP := Lib.hid (fun k (h2 : 2 ≤ k) (h8 : k ≤ 8) => (HKIT.out k h2 h8).few)
    clear hta hb2 hE
    obtain ⟨zp, hzp⟩ : ∃ z, z = 2 ^ p0 := ⟨_, rfl⟩
    have HZP := Lib.hid hzp
    rw [← hzp] at hca ⊢
    clear hzp
    go_wp2_with fail
    go_loopg [10, 11] (9 - p0) (fun q s10 s11 wx => ∃ (p : Nat) (Ac : Option Addr) (cc : Nat) (ssc : List Value), p0 ≤ p ∧ p ≤ m0 ∧ q = 9 - p ∧ s11 = .int .i64 ((p + 1 : Nat) : Int) ∧ s10 = .slice Ac (2 ^ p : Nat) cc ∧ Tab wx W.heap.size (.slice Ac (2 ^ p) cc) ssc (reh (h p) (2 ^ p) E) ∧ 2 ^ p ≤ cc ∧ cc ≤ 9223372036854775807 ∧ Below w2.heap.size w2 wx)
    case atStart =>
      refine ⟨p0, Aa, ca, ssa, by omega, by omega, rfl, by go_num, by rw [HZP.out], HTA.out, by rw [← HZP.out]; exact hca, hca9, Below.refl _ _⟩
    case round =>
      obtain ⟨p, Ac, cc, ssc, hp, hpm', rfl, rfl, rfl, htc, hcc, hcc9, hbx⟩ := hrel
      have HTC := Lib.hid htc; have HBX := Lib.hid hbx
      clear htc hbx
      obtain ⟨wo, rfl⟩ : ∃ wo : World, wo = wr := ⟨_, rfl⟩
      by_cases hlt : p < m0
      · have h3 := on_any HKIT.out HHALF.out p (p + 1) (by omega) (by omega) (by omega) HTC.out hcc hcc9 HK.out (by have := HF6.out; omega)
        have H3 := Lib.hid h3
        have hz8 := HNP.out p (by omega) (by omega)
        have hz8' := HNP.out (p + 1) (by omega) (by omega)
        have hz2 : 2 ^ (p + 1) = 2 * 2 ^ p := by rw [Nat.pow_succ, Nat.mul_comm]
        obtain ⟨z, hz⟩ : ∃ z, z = 2 ^ p := ⟨_, rfl⟩
        have HZ := Lib.hid hz
        rw [← hz] at hz2 hz8 H3 hcc ⊢
        clear h3 hz
        go_wp2_with fail
        refine H3.out.mono ?_
        clear H3
        rintro e w3 ⟨sd, ssd, rfl, htd, hb3⟩
        obtain ⟨Ad, cd, rfl, hcd, hcd9⟩ := htd.shape
        rw [reh_len] at hcd htd ⊢
        have HTD := Lib.hid htd; have HB3 := Lib.hid hb3
        have HTC3 := Lib.hid (HTC.out.new hb3)
        clear htd hb3
        obtain ⟨z2, hz2'⟩ : ∃ z, z = 2 ^ (p + 1) := ⟨_, rfl⟩
        have HZ2 := Lib.hid hz2'
        rw [← hz2'] at hz2 hz8' hcd ⊢
        have HZZ := Lib.hid hz2
        clear hz2' hz2
        go_wp2_with fail
        go_loopg [13] z (fun q s13 wx => ∃ i : Nat, i ≤ z ∧ q = z - i ∧ s13 = .int .i64 (i : Int) ∧ Below w3.heap.size w3 wx)
        case atStart => exact ⟨0, by omega, rfl, rfl, Below.refl _ _⟩
        case round =>
          obtain ⟨i, hi, rfl, rfl, hbi⟩ := hrel
          have HBI := Lib.hid hbi
          clear hbi
          by_cases hiz : i < z
          · obtain ⟨wm, rfl⟩ : ∃ wm : World, wm = wr := ⟨_, rfl⟩
            have hf : ∀ k, h p k = h (p + 1) k / 2 := fun k => (HHALF.out p (by omega) k).symm
            have htcm := HTC3.out.new HBI.out
            have htdm := HTD.out.new HBI.out
            have hzz := HZZ.out
            obtain ⟨gc, oc, A1, c1, hAc, cc0, hc1, hc19, hrc⟩ := htcm.at (i := i) (by rw [reh_len, ← HZ.out]; exact hiz)
            obtain ⟨gd, od, A0, c0, hAd, cd0, hc0, hc09, hrd0⟩ := htdm.at (i := 2 * i) (by rw [reh_len, ← HZ2.out]; omega)
            obtain ⟨gd', od', A2, c2, hAd', cd1, hc2, hc29, hrd1⟩ := htdm.at (i := 2 * i + 1) (by rw [reh_len, ← HZ2.out]; omega)
            rw [hAd] at hAd'
            cases hAd'
            subst hAc hAd
            rw [reh_at _ _ (by rw [← HZ.out]; exact hiz)] at cc0 hc1 hrc
            rw [reh_at _ _ (by rw [← HZ2.out]; omega)] at cd0 hc0 hrd0
            rw [reh_at _ _ (by rw [← HZ2.out]; omega)] at cd1 hc2 hrd1
            have hkc : Keys (bk (h p) i E) := fun e he => HK.out e (List.mem_filter.1 he).1
            have hd0 : bk (h (p + 1)) (2 * i) E = bk (h (p + 1)) (2 * i) (bk (h p) i E) := by
              rw [bk_bk (f := fun x => x / 2) hf, if_pos (by show i = 2 * i / 2; omega)]
            have hd1 : bk (h (p + 1)) (2 * i + 1) E = bk (h (p + 1)) (2 * i + 1) (bk (h p) i E) := by
              rw [bk_bk (f := fun x => x / 2) hf, if_pos (by show i = (2 * i + 1) / 2; omega)]
            have hcm : ∀ x, x < (bk (h p) i E).length → h p (el (bk (h p) i E) x).k.toNat = i := fun x hx => bk_mem _ _ _ hx
            have hcl := bk_le (h p) i E
            rw [hd0] at cd0 hc0 hrd0
            rw [hd1] at cd1 hc2 hrd1
            have HHH0 := Lib.hid ((HKIT.out (p + 1) (by omega) (by omega)).hash (Nat.pow_pos (by omega)))
            obtain ⟨H, hH⟩ : ∃ H, H = h (p + 1) := ⟨_, rfl⟩
            rw [← hH] at hf cd0 hc0 hrd0 cd1 hc2 hrd1 HHH0
            obtain ⟨C, hC⟩ : ∃ C, C = bk (h p) i E := ⟨_, rfl⟩
            rw [← hC] at cc0 hc1 hrc cd0 hc0 hrd0 cd1 hc2 hrd1 hkc hcm hcl
            obtain ⟨j2, hj2⟩ : ∃ j, j = 2 * i := ⟨_, rfl⟩
            obtain ⟨j3, hj3⟩ : ∃ j, j = 2 * i + 1 := ⟨_, rfl⟩
            rw [← hj2] at cd0 hc0 hrd0
            rw [← hj3] at cd1 hc2 hrd1
            have hi2 : (2 : Int) * (i : Int) = (j2 : Int) := by omega
            have hi3 : (j2 : Int) + 1 = (j3 : Int) := by omega
            have hj3z : (j3 : Int) < (z2 : Int) := by omega
            have hj2z : (j2 : Int) < (z2 : Int) := by omega
            have hj9 : j3 ≤ 1000 := by omega
            have hj8 : j2 ≤ 1000 := by omega
            have hw2 : IntKind.i64.wrap ((j2 : Nat) : Int) = (j2 : Int) := by rw [IntKind.wrap_i64]; omega
            have hw3 : IntKind.i64.wrap ((j3 : Nat) : Int) = (j3 : Int) := by rw [IntKind.wrap_i64]; omega
            have HJ2 := Lib.hid hj2; have HJ3 := Lib.hid hj3; have HFF := Lib.hid hf; have HCM := Lib.hid hcm; have HKC := Lib.hid hkc; have HCL := Lib.hid hcl
            obtain ⟨D0, hD0⟩ : ∃ D, D = bk H j2 C := ⟨_, rfl⟩
            obtain ⟨D1, hD1⟩ : ∃ D, D = bk H j3 C := ⟨_, rfl⟩
            rw [← hD0] at cd0 hc0 hrd0
            rw [← hD1] at cd1 hc2 hrd1
            obtain ⟨M, hM⟩ : ∃ M, M = C.length := ⟨_, rfl⟩
            obtain ⟨X0, hX0⟩ : ∃ X, X = D0.length := ⟨_, rfl⟩
            obtain ⟨X1, hX1⟩ : ∃ X, X = D1.length := ⟨_, rfl⟩
            rw [← hM] at cc0 hc1
            rw [← hX0] at cd0 hc0
            rw [← hX1] at cd1 hc2
            have hM9 : M ≤ 1000 := by have := HF6.out; omega
            have HD0 := Lib.hid hD0; have HD1 := Lib.hid hD1; have HM := Lib.hid hM; have HX0 := Lib.hid hX0; have HX1 := Lib.hid hX1
            have HRC := Lib.hid hrc; have HR0 := Lib.hid hrd0; have HR1 := Lib.hid hrd1
            have hgc : gc < wm.heap.size := (htcm.row.lt gc rfl).2
            have hgd : gd < wm.heap.size := (htdm.row.lt gd rfl).2
            have CC := Lib.hid cc0; have CD0 := Lib.hid cd0; have CD1 := Lib.hid cd1
            clear hf htcm htdm hzz hrc hrd0 hrd1 hkc hd0 hd1 hcm hcl hH hC hj2 hj3 hD0 hD1 hM hX0 hX1 cd0 cd1
            go_wp2_with fail
            clear cc0
            go_loopg [14, 15, 16] M (fun q s14 s15 s16 wx => ∃ k : Nat, k ≤ M ∧ q = M - k ∧ s14 = .int .i64 ((bk H j2 (C.take k)).length : Nat) ∧ s15 = .int .i64 ((bk H j3 (C.take k)).length : Nat) ∧ s16 = .int .i64 (k : Int) ∧ Below wm.heap.size wm wx)
            case atStart => exact ⟨0, by omega, rfl, rfl, rfl, rfl, Below.refl _ _⟩
            case round =>
              obtain ⟨k, hk, rfl, rfl, rfl, rfl, hbk⟩ := hrel
              have HBK := Lib.hid hbk
              clear hbk
              have cc := (HBK.out.cell (p := ⟨gc, oc + i, none⟩) hgc).trans CC.out
              have cd0 := (HBK.out.cell (p := ⟨gd, od + j2, none⟩) hgd).trans CD0.out
              have cd1 := (HBK.out.cell (p := ⟨gd, od + j3, none⟩) hgd).trans CD1.out
              by_cases hkM : k < M
              · have hkC : k < C.length := by have := HM.out; omega
                obtain ⟨kk, hkk, hk2⟩ := HKC.out.get k
                rw [show C[k]! = el C k from rfl] at hkk
                obtain ⟨g1, o1, hA1, hg1, ce0, ce1, ce2⟩ := (HRC.out.below HBK.out (Nat.le_refl _)).key (i := k) hkC hkk
                subst hA1
                have hhk := HCM.out k hkC
                rw [HFF.out, hkk, Int.toNat_natCast] at hhk
                have hs0 := bk_step H j2 hkC
                have hs1 := bk_step H j3 hkC
                have hp0 := fun he => bk_pos H j2 hkC he
                have hp1 := fun he => bk_pos H j3 hkC he
                rw [hkk, Int.toNat_natCast] at hs0 hs1 hp0 hp1
                rw [← HD0.out, ← HX0.out] at hp0
                rw [← HD1.out, ← HX1.out] at hp1
                obtain ⟨x, hx⟩ : ∃ x, x = (bk H j2 (C.take k)).length := ⟨_, rfl⟩
                obtain ⟨y, hy⟩ : ∃ y, y = (bk H j3 (C.take k)).length := ⟨_, rfl⟩
                have hxM : x ≤ M := by rw [hx]; have := bk_le H j2 (C.take k); rw [List.length_take] at this; omega
                have hyM : y ≤ M := by rw [hy]; have := bk_le H j3 (C.take k); rw [List.length_take] at this; omega
                rw [← hx] at hs0 hp0 ⊢
                rw [← hy] at hs1 hp1 ⊢
                obtain ⟨d, hd⟩ : ∃ d, d = el C k := ⟨_, rfl⟩
                rw [← hd] at ce0 ce2 hkk hp0 hp1
                have hj2' := HJ2.out; have hj3' := HJ3.out
                have heqd : ∀ V, (binOp .eql 39 (.agg #[.int .i64 d.t, .int .u32 (kk : Int), .int .u64 d.z]) (.agg #[.int .i64 d.t, .int .u32 (kk : Int), .int .u64 d.z])).run Try.prog V = .ok (.bool true) V := fun V => by
                  have := eqlE ⟨d.t, (kk : Int), d.z⟩ ⟨d.t, (kk : Int), d.z⟩ V
                  rwa [decide_eq_true rfl] at this
                have HS0 := Lib.hid hs0; have HS1 := Lib.hid hs1; have HKK := Lib.hid hkk; have HEQ := Lib.hid heqd
                have hgd1 : gd < wr.heap.size := by have := HBK.out.size; omega
                clear hs0 hs1 hx hy hd hkC heqd
                by_cases hcase : H kk = j2
                · obtain ⟨hxX, hel⟩ := hp0 hcase
                  have hkd : (el D0 x).k = (kk : Int) := by rw [hel]; exact HKK.out
                  obtain ⟨g2, o2, hA0, hg2, cf0, cf1, cf2⟩ := (HR0.out.below HBK.out (Nat.le_refl _)).key (i := x) (by have := HX0.out; omega) hkd
                  rw [hel] at cf0 cf2
                  subst hA0
                  have heqd := HEQ.out
                  have hne3 : ¬ H kk = j3 := by omega
                  have hh := fun V => HHH0.out kk V hk2
                  rw [hcase] at hh
                  have HHH := Lib.hid hh
                  have HCA := Lib.hid hcase; have HN3 := Lib.hid hne3
                  have hxX' : (x : Int) < (X0 : Int) := by omega
                  clear hp0 hp1 hkk hhk hel hkd hcase hj2' hj3' hne3 hh
                  go_upto_region 21 with (fail)
                  refine wp_region_held_drew (S := fun w' => w'.cell? ⟨gd, od + j2, none⟩ = some (.slice (some ⟨g2, o2, none⟩) X0 c0) ∧ (w'.cell? ⟨gc, oc + i, none⟩ = some (.slice (some ⟨g1, o1, none⟩) M c1)) ∧ (w'.cell? ⟨g1, o1 + k * 3, none⟩ = some (.int .i64 d.t) ∧ w'.cell? ⟨g1, o1 + k * 3 + 1, none⟩ = some (.int .u32 (kk : Int)) ∧ w'.cell? ⟨g1, o1 + k * 3 + 2, none⟩ = some (.int .u64 d.z)) ∧ (w'.cell? ⟨g2, o2 + x * 3, none⟩ = some (.int .i64 d.t) ∧ w'.cell? ⟨g2, o2 + x * 3 + 1, none⟩ = some (.int .u32 (kk : Int)) ∧ w'.cell? ⟨g2, o2 + x * 3 + 2, none⟩ = some (.int .u64 d.z))) (by kernel_rfl) ?_ (fun hHeld => ?_)
                  · exact ⟨cd0, cc, ⟨ce0, ce1, ce2⟩, ⟨cf0, cf1, cf2⟩⟩
                  refine wpAnyH_take (i := 0) (oi := ({ dst := some 70, op := Op.move (Operand.tmp 14), type := 3, pos := "outright.go:95", after := #[], guard := none } : Oper)) (v := ?va0) rfl (by kernel_rfl) (by kernel_rfl) (by kernel_rfl) (fun _ _ _ h => h) (Or.inl ⟨by rfl, fun w hSw => ?hya0⟩) (by assumption) ?ra0
                  case hya0 => (try dsimp only at hSw); go_simp; (try with_reducible rfl)
                  (try simp only [Act.put, List.setIfInBounds_toArray, List.set_cons_zero, List.set_cons_succ])
                  refine wpAnyH_take (i := 1) (oi := ({ dst := some 71, op := Op.move (Operand.tmp 12), type := 22, pos := "outright.go:95", after := #[], guard := none } : Oper)) (v := ?va1) rfl (by kernel_rfl) (by kernel_rfl) (by kernel_rfl) (fun _ _ _ h => h) (Or.inl ⟨by rfl, fun w hSw => ?hya1⟩) (by assumption) ?ra1
                  case hya1 => (try dsimp only at hSw); go_simp; (try with_reducible rfl)
                  (try simp only [Act.put, List.setIfInBounds_toArray, List.set_cons_zero, List.set_cons_succ])
                  refine wpAnyH_take (i := 2) (oi := ({ dst := some 72, op := Op.move (Operand.tmp 13), type := 3, pos := "outright.go:95", after := #[], guard := none } : Oper)) (v := ?va2) rfl (by kernel_rfl) (by kernel_rfl) (by kernel_rfl) (fun _ _ _ h => h) (Or.inl ⟨by rfl, fun w hSw => ?hya2⟩) (by assumption) ?ra2
                  case hya2 => (try dsimp only at hSw); go_simp; (try with_reducible rfl)
                  (try simp only [Act.put, List.setIfInBounds_toArray, List.set_cons_zero, List.set_cons_succ])
                  refine wpAnyH_take (i := 3) (oi := ({ dst := some 73, op := Op.binOp BinOp.mul 3 (Operand.const (Value.int IntKind.i64 2)) (Operand.tmp 72) 3, type := 3, pos := "outright.go:95", after := #[{ on := 2, ground := Ground.data }], guard := none } : Oper)) (v := ?va3) rfl (by kernel_rfl) (by kernel_rfl) (by kernel_rfl) (fun _ _ _ h => h) (Or.inl ⟨by rfl, fun w hSw => ?hya3⟩) (by assumption) ?ra3
                  case hya3 => (try dsimp only at hSw); go_simp; (try with_reducible rfl)
                  (try simp only [Act.put, List.setIfInBounds_toArray, List.set_cons_zero, List.set_cons_succ])
                  refine wpAnyH_take (i := 4) (oi := ({ dst := some 74, op := Op.indexAddr 22 (Operand.tmp 71) (Operand.tmp 73), type := 0, pos := "outright.go:95", after := #[{ on := 1, ground := Ground.data }, { on := 3, ground := Ground.data }], guard := none } : Oper)) (v := ?va4) rfl (by kernel_rfl) (by kernel_rfl) (by kernel_rfl) (fun _ _ _ h => h) (Or.inl ⟨by rfl, fun w hSw => ?hya4⟩) (by assumption) ?ra4
                  case hya4 => (try dsimp only at hSw); go_simp; (try with_reducible rfl)
                  (try simp only [Act.put, List.setIfInBounds_toArray, List.set_cons_zero, List.set_cons_succ])
                  refine wpAnyH_take (i := 5) (oi := ({ dst := some 75, op := Op.load 32 (Operand.tmp 74), type := 32, pos := "outright.go:95", after := #[{ on := 4, ground := Ground.data }], guard := none } : Oper)) (v := ?va5) rfl (by kernel_rfl) (by kernel_rfl) (by kernel_rfl) (fun _ _ _ h => h) (Or.inl ⟨by rfl, fun w hSw => ?hya5⟩) (by assumption) ?ra5
                  case hya5 => (try dsimp only at hSw); go_simp; (try with_reducible rfl)
                  (try simp only [Act.put, List.setIfInBounds_toArray, List.set_cons_zero, List.set_cons_succ])
                  refine wpAnyH_take (i := 6) (oi := ({ dst := some 76, op := Op.call { callee := Callee.builtin Builtin.len, args := #[Operand.tmp 75], argTypes := #[32] }, type := 3, pos := "outright.go:95", after := #[{ on := 5, ground := Ground.data }], guard := none } : Oper)) (v := ?va6) rfl (by kernel_rfl) (by kernel_rfl) (by kernel_rfl) (fun _ _ _ h => h) (Or.inl ⟨by rfl, fun w hSw => ?hya6⟩) (by assumption) ?ra6
                  case hya6 => (try dsimp only at hSw); go_simp; (try with_reducible rfl)
                  (try simp only [Act.put, List.setIfInBounds_toArray, List.set_cons_zero, List.set_cons_succ])
                  refine wpAnyH_take (i := 7) (oi := ({ dst := some 77, op := Op.binOp BinOp.lss 3 (Operand.tmp 70) (Operand.tmp 76) 3, type := 4, pos := "outright.go:95", after := #[{ on := 0, ground := Ground.data }, { on := 6, ground := Ground.data }], guard := none } : Oper)) (v := ?va7) rfl (by kernel_rfl) (by kernel_rfl) (by kernel_rfl) (fun _ _ _ h => h) (Or.inl ⟨by rfl, fun w hSw => ?hya7⟩) (by assumption) ?ra7
                  case hya7 => (try dsimp only at hSw); go_simp; (try with_reducible rfl)
                  (try simp only [Act.put, List.setIfInBounds_toArray, List.set_cons_zero, List.set_cons_succ])
                  refine wpAnyH_take (i := 8) (oi := ({ dst := some 78, op := Op.move (Operand.tmp 77), type := 4, pos := "outright.go:95", after := #[{ on := 7, ground := Ground.data }], guard := none } : Oper)) (v := ?va8) rfl (by kernel_rfl) (by kernel_rfl) (by kernel_rfl) (fun _ _ _ h => h) (Or.inl ⟨by rfl, fun w hSw => ?hya8⟩) (by assumption) ?ra8
                  case hya8 => (try dsimp only at hSw); go_simp; (try with_reducible rfl)
                  (try simp only [Act.put, List.setIfInBounds_toArray, List.set_cons_zero, List.set_cons_succ])
                  refine wpAnyH_take (i := 9) (oi := ({ dst := some 79, op := Op.move (Operand.tmp 12), type := 22, pos := "outright.go:95", after := #[{ on := 8, ground := Ground.guard }], guard := some (8, true) } : Oper)) (v := ?va9) rfl (by kernel_rfl) (by kernel_rfl) (by kernel_rfl) (fun _ _ _ h => h) (Or.inl ⟨by rfl, fun w hSw => ?hya9⟩) (by assumption) ?ra9
                  case hya9 => (try dsimp only at hSw); go_simp; (try with_reducible rfl)
                  (try simp only [Act.put, List.setIfInBounds_toArray, List.set_cons_zero, List.set_cons_succ])
                  refine wpAnyH_take (i := 10) (oi := ({ dst := some 80, op := Op.move (Operand.tmp 13), type := 3, pos := "outright.go:95", after := #[{ on := 8, ground := Ground.guard }], guard := some (8, true) } : Oper)) (v := ?va10) rfl (by kernel_rfl) (by kernel_rfl) (by kernel_rfl) (fun _ _ _ h => h) (Or.inl ⟨by rfl, fun w hSw => ?hya10⟩) (by assumption) ?ra10
                  case hya10 => (try dsimp only at hSw); go_simp; (try with_reducible rfl)
                  (try simp only [Act.put, List.setIfInBounds_toArray, List.set_cons_zero, List.set_cons_succ])
                  refine wpAnyH_take (i := 11) (oi := ({ dst := some 81, op := Op.binOp BinOp.mul 3 (Operand.const (Value.int IntKind.i64 2)) (Operand.tmp 80) 3, type := 3, pos := "outright.go:95", after := #[{ on := 10, ground := Ground.data }, { on := 8, ground := Ground.guard }], guard := some (8, true) } : Oper)) (v := ?va11) rfl (by kernel_rfl) (by kernel_rfl) (by kernel_rfl) (fun _ _ _ h => h) (Or.inl ⟨by rfl, fun w hSw => ?hya11⟩) (by assumption) ?ra11
                  case hya11 => (try dsimp only at hSw); go_simp; (try with_reducible rfl)
                  (try simp only [Act.put, List.setIfInBounds_toArray, List.set_cons_zero, List.set_cons_succ])
                  refine wpAnyH_take (i := 12) (oi := ({ dst := some 82, op := Op.indexAddr 22 (Operand.tmp 79) (Operand.tmp 81), type := 0, pos := "outright.go:95", after := #[{ on := 9, ground := Ground.data }, { on := 11, ground := Ground.data }, { on := 8, ground := Ground.guard }], guard := some (8, true) } : Oper)) (v := ?va12) rfl (by kernel_rfl) (by kernel_rfl) (by kernel_rfl) (fun _ _ _ h => h) (Or.inl ⟨by rfl, fun w hSw => ?hya12⟩) (by assumption) ?ra12
                  case hya12 => (try dsimp only at hSw); go_simp; (try with_reducible rfl)
                  (try simp only [Act.put, List.setIfInBounds_toArray, List.set_cons_zero, List.set_cons_succ])
                  refine wpAnyH_take (i := 13) (oi := ({ dst := some 83, op := Op.load 32 (Operand.tmp 82), type := 32, pos := "outright.go:95", after := #[{ on := 12, ground := Ground.data }, { on := 8, ground := Ground.guard }], guard := some (8, true) } : Oper)) (v := ?va13) rfl (by kernel_rfl) (by kernel_rfl) (by kernel_rfl) (fun _ _ _ h => h) (Or.inl ⟨by rfl, fun w hSw => ?hya13⟩) (by assumption) ?ra13
                  case hya13 => (try dsimp only at hSw); go_simp; (try with_reducible rfl)
                  (try simp only [Act.put, List.setIfInBounds_toArray, List.set_cons_zero, List.set_cons_succ])
                  refine wpAnyH_take (i := 14) (oi := ({ dst := some 84, op := Op.move (Operand.tmp 14), type := 3, pos := "outright.go:95", after := #[{ on := 8, ground := Ground.guard }], guard := some (8, true) } : Oper)) (v := ?va14) rfl (by kernel_rfl) (by kernel_rfl) (by kernel_rfl) (fun _ _ _ h => h) (Or.inl ⟨by rfl, fun w hSw => ?hya14⟩) (by assumption) ?ra14
                  case hya14 => (try dsimp only at hSw); go_simp; (try with_reducible rfl)
                  (try simp only [Act.put, List.setIfInBounds_toArray, List.set_cons_zero, List.set_cons_succ])
                  refine wpAnyH_take (i := 15) (oi := ({ dst := some 85, op := Op.indexAddr 32 (Operand.tmp 83) (Operand.tmp 84), type := 0, pos := "outright.go:95", after := #[{ on := 13, ground := Ground.data }, { on := 14, ground := Ground.data }, { on := 8, ground := Ground.guard }], guard := some (8, true) } : Oper)) (v := ?va15) rfl (by kernel_rfl) (by kernel_rfl) (by kernel_rfl) (fun _ _ _ h => h) (Or.inl ⟨by rfl, fun w hSw => ?hya15⟩) (by assumption) ?ra15
                  case hya15 => (try dsimp only at hSw); go_simp; (try with_reducible rfl)
                  (try simp only [Act.put, List.setIfInBounds_toArray, List.set_cons_zero, List.set_cons_succ])
                  refine wpAnyH_take (i := 16) (oi := ({ dst := some 86, op := Op.load 39 (Operand.tmp 85), type := 39, pos := "outright.go:95", after := #[{ on := 15, ground := Ground.data }, { on := 8, ground := Ground.guard }], guard := some (8, true) } : Oper)) (v := ?va16) rfl (by kernel_rfl) (by kernel_rfl) (by kernel_rfl) (fun _ _ _ h => h) (Or.inl ⟨by rfl, fun w hSw => ?hya16⟩) (by assumption) ?ra16
                  case hya16 => (try dsimp only at hSw); go_simp; (try with_reducible rfl)
                  (try simp only [Act.put, List.setIfInBounds_toArray, List.set_cons_zero, List.set_cons_succ])
                  refine wpAnyH_take (i := 17) (oi := ({ dst := some 87, op := Op.move (Operand.tmp 10), type := 22, pos := "outright.go:95", after := #[{ on := 8, ground := Ground.guard }], guard := some (8, true) } : Oper)) (v := ?va17) rfl (by kernel_rfl) (by kernel_rfl) (by kernel_rfl) (fun _ _ _ h => h) (Or.inl ⟨by rfl, fun w hSw => ?hya17⟩) (by assumption) ?ra17
                  case hya17 => (try dsimp only at hSw); go_simp; (try with_reducible rfl)
                  (try simp only [Act.put, List.setIfInBounds_toArray, List.set_cons_zero, List.set_cons_succ])
                  refine wpAnyH_take (i := 18) (oi := ({ dst := some 88, op := Op.move (Operand.tmp 13), type := 3, pos := "outright.go:95", after := #[{ on := 8, ground := Ground.guard }], guard := some (8, true) } : Oper)) (v := ?va18) rfl (by kernel_rfl) (by kernel_rfl) (by kernel_rfl) (fun _ _ _ h => h) (Or.inl ⟨by rfl, fun w hSw => ?hya18⟩) (by assumption) ?ra18
                  case hya18 => (try dsimp only at hSw); go_simp; (try with_reducible rfl)
                  (try simp only [Act.put, List.setIfInBounds_toArray, List.set_cons_zero, List.set_cons_succ])
                  refine wpAnyH_take (i := 19) (oi := ({ dst := some 89, op := Op.indexAddr 22 (Operand.tmp 87) (Operand.tmp 88), type := 0, pos := "outright.go:95", after := #[{ on := 17, ground := Ground.data }, { on := 18, ground := Ground.data }, { on := 8, ground := Ground.guard }], guard := some (8, true) } : Oper)) (v := ?va19) rfl (by kernel_rfl) (by kernel_rfl) (by kernel_rfl) (fun _ _ _ h => h) (Or.inl ⟨by rfl, fun w hSw => ?hya19⟩) (by assumption) ?ra19
                  case hya19 => (try dsimp only at hSw); go_simp; (try with_reducible rfl)
                  (try simp only [Act.put, List.setIfInBounds_toArray, List.set_cons_zero, List.set_cons_succ])
                  refine wpAnyH_take (i := 20) (oi := ({ dst := some 90, op := Op.load 32 (Operand.tmp 89), type := 32, pos := "outright.go:95", after := #[{ on := 19, ground := Ground.data }, { on := 8, ground := Ground.guard }], guard := some (8, true) } : Oper)) (v := ?va20) rfl (by kernel_rfl) (by kernel_rfl) (by kernel_rfl) (fun _ _ _ h => h) (Or.inl ⟨by rfl, fun w hSw => ?hya20⟩) (by assumption) ?ra20
                  case hya20 => (try dsimp only at hSw); go_simp; (try with_reducible rfl)
                  (try simp only [Act.put, List.setIfInBounds_toArray, List.set_cons_zero, List.set_cons_succ])
                  refine wpAnyH_take (i := 21) (oi := ({ dst := some 91, op := Op.move (Operand.tmp 16), type := 3, pos := "outright.go:95", after := #[{ on := 8, ground := Ground.guard }], guard := some (8, true) } : Oper)) (v := ?va21) rfl (by kernel_rfl) (by kernel_rfl) (by kernel_rfl) (fun _ _ _ h => h) (Or.inl ⟨by rfl, fun w hSw => ?hya21⟩) (by assumption) ?ra21
                  case hya21 => (try dsimp only at hSw); go_simp; (try with_reducible rfl)
                  (try simp only [Act.put, List.setIfInBounds_toArray, List.set_cons_zero, List.set_cons_succ])
                  refine wpAnyH_take (i := 22) (oi := ({ dst := some 92, op := Op.indexAddr 32 (Operand.tmp 90) (Operand.tmp 91), type := 0, pos := "outright.go:95", after := #[{ on := 20, ground := Ground.data }, { on := 21, ground := Ground.data }, { on := 8, ground := Ground.guard }], guard := some (8, true) } : Oper)) (v := ?va22) rfl (by kernel_rfl) (by kernel_rfl) (by kernel_rfl) (fun _ _ _ h => h) (Or.inl ⟨by rfl, fun w hSw => ?hya22⟩) (by assumption) ?ra22
                  case hya22 => (try dsimp only at hSw); go_simp; (try with_reducible rfl)
                  (try simp only [Act.put, List.setIfInBounds_toArray, List.set_cons_zero, List.set_cons_succ])
                  refine wpAnyH_take (i := 23) (oi := ({ dst := some 93, op := Op.load 39 (Operand.tmp 92), type := 39, pos := "outright.go:95", after := #[{ on := 22, ground := Ground.data }, { on := 8, ground := Ground.guard }], guard := some (8, true) } : Oper)) (v := ?va23) rfl (by kernel_rfl) (by kernel_rfl) (by kernel_rfl) (fun _ _ _ h => h) (Or.inl ⟨by rfl, fun w hSw => ?hya23⟩) (by assumption) ?ra23
                  case hya23 => (try dsimp only at hSw); go_simp; (try with_reducible rfl)
                  (try simp only [Act.put, List.setIfInBounds_toArray, List.set_cons_zero, List.set_cons_succ])
                  refine wpAnyH_take (i := 24) (oi := ({ dst := some 94, op := Op.binOp BinOp.eql 39 (Operand.tmp 86) (Operand.tmp 93) 39, type := 4, pos := "outright.go:95", after := #[{ on := 16, ground := Ground.data }, { on := 23, ground := Ground.data }, { on := 8, ground := Ground.guard }], guard := some (8, true) } : Oper)) (v := ?va24) rfl (by kernel_rfl) (by kernel_rfl) (by kernel_rfl) (fun _ _ _ h => h) (Or.inl ⟨by rfl, fun w hSw => ?hya24⟩) (by assumption) ?ra24
                  case hya24 => (try dsimp only at hSw); go_simp; (try with_reducible rfl)
                  (try simp only [Act.put, List.setIfInBounds_toArray, List.set_cons_zero, List.set_cons_succ])
                  refine wpAnyH_take (i := 25) (oi := ({ dst := some 95, op := Op.pick (Operand.tmp 78) (Operand.tmp 94) (Operand.const (Value.bool false)), type := 4, pos := "outright.go:95", after := #[{ on := 8, ground := Ground.data }, { on := 24, ground := Ground.data }], guard := none } : Oper)) (v := ?va25) rfl (by kernel_rfl) (by kernel_rfl) (by kernel_rfl) (fun _ _ _ h => h) (Or.inl ⟨by rfl, fun w hSw => ?hya25⟩) (by assumption) ?ra25
                  case hya25 => (try dsimp only at hSw); go_simp; (try with_reducible rfl)
                  (try simp only [Act.put, List.setIfInBounds_toArray, List.set_cons_zero, List.set_cons_succ])
                  refine wpAnyH_take (i := 26) (oi := ({ dst := some 96, op := Op.move (Operand.tmp 95), type := 4, pos := "outright.go:95", after := #[{ on := 25, ground := Ground.data }, { on := 8, ground := Ground.chain }], guard := none } : Oper)) (v := ?va26) rfl (by kernel_rfl) (by kernel_rfl) (by kernel_rfl) (fun _ _ _ h => h) (Or.inl ⟨by rfl, fun w hSw => ?hya26⟩) (by assumption) ?ra26
                  case hya26 => (try dsimp only at hSw); go_simp; (try with_reducible rfl)
                  (try simp only [Act.put, List.setIfInBounds_toArray, List.set_cons_zero, List.set_cons_succ])
                  refine wpAnyH_take (i := 27) (oi := ({ dst := some 97, op := Op.move (Operand.tmp 10), type := 22, pos := "outright.go:95", after := #[{ on := 26, ground := Ground.guard }], guard := some (26, true) } : Oper)) (v := ?va27) rfl (by kernel_rfl) (by kernel_rfl) (by kernel_rfl) (fun _ _ _ h => h) (Or.inl ⟨by rfl, fun w hSw => ?hya27⟩) (by assumption) ?ra27
                  case hya27 => (try dsimp only at hSw); go_simp; (try with_reducible rfl)
                  (try simp only [Act.put, List.setIfInBounds_toArray, List.set_cons_zero, List.set_cons_succ])
                  refine wpAnyH_take (i := 28) (oi := ({ dst := some 98, op := Op.move (Operand.tmp 13), type := 3, pos := "outright.go:95", after := #[{ on := 26, ground := Ground.guard }], guard := some (26, true) } : Oper)) (v := ?va28) rfl (by kernel_rfl) (by kernel_rfl) (by kernel_rfl) (fun _ _ _ h => h) (Or.inl ⟨by rfl, fun w hSw => ?hya28⟩) (by assumption) ?ra28
                  case hya28 => (try dsimp only at hSw); go_simp; (try with_reducible rfl)
                  (try simp only [Act.put, List.setIfInBounds_toArray, List.set_cons_zero, List.set_cons_succ])
                  refine wpAnyH_take (i := 29) (oi := ({ dst := some 99, op := Op.indexAddr 22 (Operand.tmp 97) (Operand.tmp 98), type := 0, pos := "outright.go:95", after := #[{ on := 27, ground := Ground.data }, { on := 28, ground := Ground.data }, { on := 26, ground := Ground.guard }], guard := some (26, true) } : Oper)) (v := ?va29) rfl (by kernel_rfl) (by kernel_rfl) (by kernel_rfl) (fun _ _ _ h => h) (Or.inl ⟨by rfl, fun w hSw => ?hya29⟩) (by assumption) ?ra29
                  case hya29 => (try dsimp only at hSw); go_simp; (try with_reducible rfl)
                  (try simp only [Act.put, List.setIfInBounds_toArray, List.set_cons_zero, List.set_cons_succ])
                  refine wpAnyH_take (i := 30) (oi := ({ dst := some 100, op := Op.load 32 (Operand.tmp 99), type := 32, pos := "outright.go:95", after := #[{ on := 29, ground := Ground.data }, { on := 26, ground := Ground.guard }], guard := some (26, true) } : Oper)) (v := ?va30) rfl (by kernel_rfl) (by kernel_rfl) (by kernel_rfl) (fun _ _ _ h => h) (Or.inl ⟨by rfl, fun w hSw => ?hya30⟩) (by assumption) ?ra30
                  case hya30 => (try dsimp only at hSw); go_simp; (try with_reducible rfl)
                  (try simp only [Act.put, List.setIfInBounds_toArray, List.set_cons_zero, List.set_cons_succ])
                  refine wpAnyH_take (i := 31) (oi := ({ dst := some 101, op := Op.move (Operand.tmp 16), type := 3, pos := "outright.go:95", after := #[{ on := 26, ground := Ground.guard }], guard := some (26, true) } : Oper)) (v := ?va31) rfl (by kernel_rfl) (by kernel_rfl) (by kernel_rfl) (fun _ _ _ h => h) (Or.inl ⟨by rfl, fun w hSw => ?hya31⟩) (by assumption) ?ra31
                  case hya31 => (try dsimp only at hSw); go_simp; (try with_reducible rfl)
                  (try simp only [Act.put, List.setIfInBounds_toArray, List.set_cons_zero, List.set_cons_succ])
                  refine wpAnyH_take (i := 32) (oi := ({ dst := some 102, op := Op.indexAddr 32 (Operand.tmp 100) (Operand.tmp 101), type := 0, pos := "outright.go:95", after := #[{ on := 30, ground := Ground.data }, { on := 31, ground := Ground.data }, { on := 26, ground := Ground.guard }], guard := some (26, true) } : Oper)) (v := ?va32) rfl (by kernel_rfl) (by kernel_rfl) (by kernel_rfl) (fun _ _ _ h => h) (Or.inl ⟨by rfl, fun w hSw => ?hya32⟩) (by assumption) ?ra32
                  case hya32 => (try dsimp only at hSw); go_simp; (try with_reducible rfl)
                  (try simp only [Act.put, List.setIfInBounds_toArray, List.set_cons_zero, List.set_cons_succ])
                  refine wpAnyH_take (i := 33) (oi := ({ dst := some 103, op := Op.fieldAddr 39 (Operand.tmp 102) 1, type := 0, pos := "outright.go:95", after := #[{ on := 32, ground := Ground.data }, { on := 26, ground := Ground.guard }], guard := some (26, true) } : Oper)) (v := ?va33) rfl (by kernel_rfl) (by kernel_rfl) (by kernel_rfl) (fun _ _ _ h => h) (Or.inl ⟨by rfl, fun w hSw => ?hya33⟩) (by assumption) ?ra33
                  case hya33 => (try dsimp only at hSw); go_simp; (try with_reducible rfl)
                  (try simp only [Act.put, List.setIfInBounds_toArray, List.set_cons_zero, List.set_cons_succ])
                  refine wpAnyH_take (i := 34) (oi := ({ dst := some 104, op := Op.load 36 (Operand.tmp 103), type := 36, pos := "outright.go:95", after := #[{ on := 33, ground := Ground.data }, { on := 26, ground := Ground.guard }], guard := some (26, true) } : Oper)) (v := ?va34) rfl (by kernel_rfl) (by kernel_rfl) (by kernel_rfl) (fun _ _ _ h => h) (Or.inl ⟨by rfl, fun w hSw => ?hya34⟩) (by assumption) ?ra34
                  case hya34 => (try dsimp only at hSw); go_simp; (try with_reducible rfl)
                  (try simp only [Act.put, List.setIfInBounds_toArray, List.set_cons_zero, List.set_cons_succ])
                  refine wpAnyH_take (i := 35) (oi := ({ dst := some 105, op := Op.move (Operand.tmp 11), type := 3, pos := "outright.go:95", after := #[{ on := 26, ground := Ground.guard }], guard := some (26, true) } : Oper)) (v := ?va35) rfl (by kernel_rfl) (by kernel_rfl) (by kernel_rfl) (fun _ _ _ h => h) (Or.inl ⟨by rfl, fun w hSw => ?hya35⟩) (by assumption) ?ra35
                  case hya35 => (try dsimp only at hSw); go_simp; (try with_reducible rfl)
                  (try simp only [Act.put, List.setIfInBounds_toArray, List.set_cons_zero, List.set_cons_succ])
                  refine wpAnyH_take (i := 37) (oi := ({ dst := some 107, op := Op.move (Operand.tmp 13), type := 3, pos := "outright.go:95", after := #[{ on := 26, ground := Ground.guard }], guard := some (26, true) } : Oper)) (v := ?va37) rfl (by kernel_rfl) (by kernel_rfl) (by kernel_rfl) (fun _ _ _ h => h) (Or.inl ⟨by rfl, fun w hSw => ?hya37⟩) (by assumption) ?ra37
                  case hya37 => (try dsimp only at hSw); go_simp; (try with_reducible rfl)
                  (try simp only [Act.put, List.setIfInBounds_toArray, List.set_cons_zero, List.set_cons_succ])
                  refine wpAnyH_take (i := 38) (oi := ({ dst := some 108, op := Op.binOp BinOp.mul 3 (Operand.const (Value.int IntKind.i64 2)) (Operand.tmp 107) 3, type := 3, pos := "outright.go:95", after := #[{ on := 37, ground := Ground.data }, { on := 26, ground := Ground.guard }], guard := some (26, true) } : Oper)) (v := ?va38) rfl (by kernel_rfl) (by kernel_rfl) (by kernel_rfl) (fun _ _ _ h => h) (Or.inl ⟨by rfl, fun w hSw => ?hya38⟩) (by assumption) ?ra38
                  case hya38 => (try dsimp only at hSw); go_simp; (try with_reducible rfl)
                  (try simp only [Act.put, List.setIfInBounds_toArray, List.set_cons_zero, List.set_cons_succ])
                  refine wpAnyH_ready (rs := [36]) (by kernel_rfl) (by simp) ?_
                  refine AllReadyH.cons (o := ({ dst := some 106, op := Op.call { callee := Callee.value (Operand.func 16), args := #[Operand.tmp 104, Operand.tmp 105], argTypes := #[36, 3] }, type := 3, pos := "outright.go:95", after := #[{ on := 34, ground := Ground.data }, { on := 35, ground := Ground.data }, { on := 26, ground := Ground.chain }, { on := 26, ground := Ground.guard }], guard := some (26, true) } : Oper)) rfl (fun Kq hKq => ?_) AllReadyH.nil
                  go_simp
                  (refine (HHH.out _).mono ?_; rintro e w1 ⟨rfl, rfl⟩)
                  refine hKq.out _ _ ?_ (fun hHeld => ?_)
                  · exact hHeld
                  clear hKq Kq
                  (try simp only [Act.put, List.setIfInBounds_toArray, List.set_cons_zero, List.set_cons_succ])
                  refine wpAnyH_take (i := 39) (oi := ({ dst := some 109, op := Op.binOp BinOp.eql 3 (Operand.tmp 106) (Operand.tmp 108) 3, type := 4, pos := "outright.go:95", after := #[{ on := 36, ground := Ground.data }, { on := 38, ground := Ground.data }, { on := 26, ground := Ground.guard }], guard := some (26, true) } : Oper)) (v := ?va39) rfl (by kernel_rfl) (by kernel_rfl) (by kernel_rfl) (fun _ _ _ h => h) (Or.inl ⟨by rfl, fun w hSw => ?hya39⟩) (by assumption) ?ra39
                  case hya39 => (try dsimp only at hSw); go_simp; (try with_reducible rfl)
                  (try simp only [Act.put, List.setIfInBounds_toArray, List.set_cons_zero, List.set_cons_succ])
                  refine wpAnyH_take (i := 40) (oi := ({ dst := some 110, op := Op.pick (Operand.tmp 96) (Operand.tmp 109) (Operand.const (Value.bool false)), type := 4, pos := "outright.go:95", after := #[{ on := 26, ground := Ground.data }, { on := 39, ground := Ground.data }], guard := none } : Oper)) (v := ?va40) rfl (by kernel_rfl) (by kernel_rfl) (by kernel_rfl) (fun _ _ _ h => h) (Or.inl ⟨by rfl, fun w hSw => ?hya40⟩) (by assumption) ?ra40
                  case hya40 => (try dsimp only at hSw); go_simp; (try with_reducible rfl)
                  (try simp only [Act.put, List.setIfInBounds_toArray, List.set_cons_zero, List.set_cons_succ])
                  refine wpAnyH_done (by kernel_rfl) ?_ _
                  clear hHeld
                  go_wp2_with fail
                  go_roundg (M - (k + 1))
                  case measure => omega
                  case rel =>
                    have e0 := HS0.out
                    have e1 := HS1.out
                    rw [if_pos HCA.out] at e0
                    rw [if_neg HN3.out] at e1
                    refine ⟨k + 1, by omega, rfl, ?_, ?_, by go_num, HBK.out.drew⟩
                    · rw [e0]; go_num
                    · rw [e1]; rfl
                · have hc3 : H kk = j3 := by omega
                  obtain ⟨hyX, hel⟩ := hp1 hc3
                  have hkd : (el D1 y).k = (kk : Int) := by rw [hel]; exact HKK.out
                  have hyX' : (y : Int) < (X1 : Int) := by omega
                  have heqd := HEQ.out
                  have HCA := Lib.hid hcase; have HC3 := Lib.hid hc3
                  have hR1 := (HR1.out.below HBK.out (Nat.le_refl _)).key (i := y) (by have := HX1.out; omega) hkd
                  rw [hel] at hR1
                  have HRR := Lib.hid hR1
                  by_cases hxX : x < X0
                  · have hxX' : (x : Int) < (X0 : Int) := by omega
                    have hfm : H (el D0 x).k.toNat = j2 := by rw [HD0.out]; exact bk_mem H j2 C (by rw [← HD0.out, ← HX0.out]; exact hxX)
                    obtain ⟨g2, o2, hA0, hg2, cf0, cf1, cf2⟩ := (HR0.out.below HBK.out (Nat.le_refl _)).ent (i := x) (by have := HX0.out; omega)
                    rw [show D0[x]! = el D0 x from rfl] at cf0 cf1 cf2
                    obtain ⟨f, hf⟩ : ∃ f, f = el D0 x := ⟨_, rfl⟩
                    rw [← hf] at cf0 cf1 cf2 hfm
                    subst hA0
                    have hneq : ∀ V, (binOp .eql 39 (.agg #[.int .i64 f.t, .int .u32 f.k, .int .u64 f.z]) (.agg #[.int .i64 d.t, .int .u32 (kk : Int), .int .u64 d.z])).run Try.prog V = .ok (.bool false) V := fun V => by
                      have := eqlE f ⟨d.t, (kk : Int), d.z⟩ V
                      rwa [decide_eq_false (fun e => by rw [e] at hfm; simp at hfm; omega)] at this
                    clear hp0 hp1 hkk hhk hel hkd hcase hj2' hj3' hc3 hR1 hf hfm heqd
                    go_upto_region 21 with (fail)
                    refine wp_region_held_drew (S := fun w' => w'.cell? ⟨gd, od + j2, none⟩ = some (.slice (some ⟨g2, o2, none⟩) X0 c0) ∧ (w'.cell? ⟨gc, oc + i, none⟩ = some (.slice (some ⟨g1, o1, none⟩) M c1)) ∧ (w'.cell? ⟨g1, o1 + k * 3, none⟩ = some (.int .i64 d.t) ∧ w'.cell? ⟨g1, o1 + k * 3 + 1, none⟩ = some (.int .u32 (kk : Int)) ∧ w'.cell? ⟨g1, o1 + k * 3 + 2, none⟩ = some (.int .u64 d.z)) ∧ (w'.cell? ⟨g2, o2 + x * 3, none⟩ = some (.int .i64 f.t) ∧ w'.cell? ⟨g2, o2 + x * 3 + 1, none⟩ = some (.int .u32 f.k) ∧ w'.cell? ⟨g2, o2 + x * 3 + 2, none⟩ = some (.int .u64 f.z))) (by kernel_rfl) ?_ (fun hHeld => ?_)
                    · exact ⟨cd0, cc, ⟨ce0, ce1, ce2⟩, ⟨cf0, cf1, cf2⟩⟩
                    refine wpAnyH_take (i := 0) (oi := ({ dst := some 70, op := Op.move (Operand.tmp 14), type := 3, pos := "outright.go:95", after := #[], guard := none } : Oper)) (v := ?vb0) rfl (by kernel_rfl) (by kernel_rfl) (by kernel_rfl) (fun _ _ _ h => h) (Or.inl ⟨by rfl, fun w hSw => ?hyb0⟩) (by assumption) ?rb0
                    case hyb0 => (try dsimp only at hSw); go_simp; (try with_reducible rfl)
                    (try simp only [Act.put, List.setIfInBounds_toArray, List.set_cons_zero, List.set_cons_succ])
                    refine wpAnyH_take (i := 1) (oi := ({ dst := some 71, op := Op.move (Operand.tmp 12), type := 22, pos := "outright.go:95", after := #[], guard := none } : Oper)) (v := ?vb1) rfl (by kernel_rfl) (by kernel_rfl) (by kernel_rfl) (fun _ _ _ h => h) (Or.inl ⟨by rfl, fun w hSw => ?hyb1⟩) (by assumption) ?rb1
                    case hyb1 => (try dsimp only at hSw); go_simp; (try with_reducible rfl)
                    (try simp only [Act.put, List.setIfInBounds_toArray, List.set_cons_zero, List.set_cons_succ])
                    refine wpAnyH_take (i := 2) (oi := ({ dst := some 72, op := Op.move (Operand.tmp 13), type := 3, pos := "outright.go:95", after := #[], guard := none } : Oper)) (v := ?vb2) rfl (by kernel_rfl) (by kernel_rfl) (by kernel_rfl) (fun _ _ _ h => h) (Or.inl ⟨by rfl, fun w hSw => ?hyb2⟩) (by assumption) ?rb2
                    case hyb2 => (try dsimp only at hSw); go_simp; (try with_reducible rfl)
                    (try simp only [Act.put, List.setIfInBounds_toArray, List.set_cons_zero, List.set_cons_succ])
                    refine wpAnyH_take (i := 3) (oi := ({ dst := some 73, op := Op.binOp BinOp.mul 3 (Operand.const (Value.int IntKind.i64 2)) (Operand.tmp 72) 3, type := 3, pos := "outright.go:95", after := #[{ on := 2, ground := Ground.data }], guard := none } : Oper)) (v := ?vb3) rfl (by kernel_rfl) (by kernel_rfl) (by kernel_rfl) (fun _ _ _ h => h) (Or.inl ⟨by rfl, fun w hSw => ?hyb3⟩) (by assumption) ?rb3
                    case hyb3 => (try dsimp only at hSw); go_simp; (try with_reducible rfl)
                    (try simp only [Act.put, List.setIfInBounds_toArray, List.set_cons_zero, List.set_cons_succ])
                    refine wpAnyH_take (i := 4) (oi := ({ dst := some 74, op := Op.indexAddr 22 (Operand.tmp 71) (Operand.tmp 73), type := 0, pos := "outright.go:95", after := #[{ on := 1, ground := Ground.data }, { on := 3, ground := Ground.data }], guard := none } : Oper)) (v := ?vb4) rfl (by kernel_rfl) (by kernel_rfl) (by kernel_rfl) (fun _ _ _ h => h) (Or.inl ⟨by rfl, fun w hSw => ?hyb4⟩) (by assumption) ?rb4
                    case hyb4 => (try dsimp only at hSw); go_simp; (try with_reducible rfl)
                    (try simp only [Act.put, List.setIfInBounds_toArray, List.set_cons_zero, List.set_cons_succ])
                    refine wpAnyH_take (i := 5) (oi := ({ dst := some 75, op := Op.load 32 (Operand.tmp 74), type := 32, pos := "outright.go:95", after := #[{ on := 4, ground := Ground.data }], guard := none } : Oper)) (v := ?vb5) rfl (by kernel_rfl) (by kernel_rfl) (by kernel_rfl) (fun _ _ _ h => h) (Or.inl ⟨by rfl, fun w hSw => ?hyb5⟩) (by assumption) ?rb5
                    case hyb5 => (try dsimp only at hSw); go_simp; (try with_reducible rfl)
                    (try simp only [Act.put, List.setIfInBounds_toArray, List.set_cons_zero, List.set_cons_succ])
                    refine wpAnyH_take (i := 6) (oi := ({ dst := some 76, op := Op.call { callee := Callee.builtin Builtin.len, args := #[Operand.tmp 75], argTypes := #[32] }, type := 3, pos := "outright.go:95", after := #[{ on := 5, ground := Ground.data }], guard := none } : Oper)) (v := ?vb6) rfl (by kernel_rfl) (by kernel_rfl) (by kernel_rfl) (fun _ _ _ h => h) (Or.inl ⟨by rfl, fun w hSw => ?hyb6⟩) (by assumption) ?rb6
                    case hyb6 => (try dsimp only at hSw); go_simp; (try with_reducible rfl)
                    (try simp only [Act.put, List.setIfInBounds_toArray, List.set_cons_zero, List.set_cons_succ])
                    refine wpAnyH_take (i := 7) (oi := ({ dst := some 77, op := Op.binOp BinOp.lss 3 (Operand.tmp 70) (Operand.tmp 76) 3, type := 4, pos := "outright.go:95", after := #[{ on := 0, ground := Ground.data }, { on := 6, ground := Ground.data }], guard := none } : Oper)) (v := ?vb7) rfl (by kernel_rfl) (by kernel_rfl) (by kernel_rfl) (fun _ _ _ h => h) (Or.inl ⟨by rfl, fun w hSw => ?hyb7⟩) (by assumption) ?rb7
                    case hyb7 => (try dsimp only at hSw); go_simp; (try with_reducible rfl)
                    (try simp only [Act.put, List.setIfInBounds_toArray, List.set_cons_zero, List.set_cons_succ])
                    refine wpAnyH_take (i := 8) (oi := ({ dst := some 78, op := Op.move (Operand.tmp 77), type := 4, pos := "outright.go:95", after := #[{ on := 7, ground := Ground.data }], guard := none } : Oper)) (v := ?vb8) rfl (by kernel_rfl) (by kernel_rfl) (by kernel_rfl) (fun _ _ _ h => h) (Or.inl ⟨by rfl, fun w hSw => ?hyb8⟩) (by assumption) ?rb8
                    case hyb8 => (try dsimp only at hSw); go_simp; (try with_reducible rfl)
                    (try simp only [Act.put, List.setIfInBounds_toArray, List.set_cons_zero, List.set_cons_succ])
                    refine wpAnyH_take (i := 9) (oi := ({ dst := some 79, op := Op.move (Operand.tmp 12), type := 22, pos := "outright.go:95", after := #[{ on := 8, ground := Ground.guard }], guard := some (8, true) } : Oper)) (v := ?vb9) rfl (by kernel_rfl) (by kernel_rfl) (by kernel_rfl) (fun _ _ _ h => h) (Or.inl ⟨by rfl, fun w hSw => ?hyb9⟩) (by assumption) ?rb9
                    case hyb9 => (try dsimp only at hSw); go_simp; (try with_reducible rfl)
                    (try simp only [Act.put, List.setIfInBounds_toArray, List.set_cons_zero, List.set_cons_succ])
                    refine wpAnyH_take (i := 10) (oi := ({ dst := some 80, op := Op.move (Operand.tmp 13), type := 3, pos := "outright.go:95", after := #[{ on := 8, ground := Ground.guard }], guard := some (8, true) } : Oper)) (v := ?vb10) rfl (by kernel_rfl) (by kernel_rfl) (by kernel_rfl) (fun _ _ _ h => h) (Or.inl ⟨by rfl, fun w hSw => ?hyb10⟩) (by assumption) ?rb10
                    case hyb10 => (try dsimp only at hSw); go_simp; (try with_reducible rfl)
                    (try simp only [Act.put, List.setIfInBounds_toArray, List.set_cons_zero, List.set_cons_succ])
                    refine wpAnyH_take (i := 11) (oi := ({ dst := some 81, op := Op.binOp BinOp.mul 3 (Operand.const (Value.int IntKind.i64 2)) (Operand.tmp 80) 3, type := 3, pos := "outright.go:95", after := #[{ on := 10, ground := Ground.data }, { on := 8, ground := Ground.guard }], guard := some (8, true) } : Oper)) (v := ?vb11) rfl (by kernel_rfl) (by kernel_rfl) (by kernel_rfl) (fun _ _ _ h => h) (Or.inl ⟨by rfl, fun w hSw => ?hyb11⟩) (by assumption) ?rb11
                    case hyb11 => (try dsimp only at hSw); go_simp; (try with_reducible rfl)
                    (try simp only [Act.put, List.setIfInBounds_toArray, List.set_cons_zero, List.set_cons_succ])
                    refine wpAnyH_take (i := 12) (oi := ({ dst := some 82, op := Op.indexAddr 22 (Operand.tmp 79) (Operand.tmp 81), type := 0, pos := "outright.go:95", after := #[{ on := 9, ground := Ground.data }, { on := 11, ground := Ground.data }, { on := 8, ground := Ground.guard }], guard := some (8, true) } : Oper)) (v := ?vb12) rfl (by kernel_rfl) (by kernel_rfl) (by kernel_rfl) (fun _ _ _ h => h) (Or.inl ⟨by rfl, fun w hSw => ?hyb12⟩) (by assumption) ?rb12
                    case hyb12 => (try dsimp only at hSw); go_simp; (try with_reducible rfl)
                    (try simp only [Act.put, List.setIfInBounds_toArray, List.set_cons_zero, List.set_cons_succ])
                    refine wpAnyH_take (i := 13) (oi := ({ dst := some 83, op := Op.load 32 (Operand.tmp 82), type := 32, pos := "outright.go:95", after := #[{ on := 12, ground := Ground.data }, { on := 8, ground := Ground.guard }], guard := some (8, true) } : Oper)) (v := ?vb13) rfl (by kernel_rfl) (by kernel_rfl) (by kernel_rfl) (fun _ _ _ h => h) (Or.inl ⟨by rfl, fun w hSw => ?hyb13⟩) (by assumption) ?rb13
                    case hyb13 => (try dsimp only at hSw); go_simp; (try with_reducible rfl)
                    (try simp only [Act.put, List.setIfInBounds_toArray, List.set_cons_zero, List.set_cons_succ])
                    refine wpAnyH_take (i := 14) (oi := ({ dst := some 84, op := Op.move (Operand.tmp 14), type := 3, pos := "outright.go:95", after := #[{ on := 8, ground := Ground.guard }], guard := some (8, true) } : Oper)) (v := ?vb14) rfl (by kernel_rfl) (by kernel_rfl) (by kernel_rfl) (fun _ _ _ h => h) (Or.inl ⟨by rfl, fun w hSw => ?hyb14⟩) (by assumption) ?rb14
                    case hyb14 => (try dsimp only at hSw); go_simp; (try with_reducible rfl)
                    (try simp only [Act.put, List.setIfInBounds_toArray, List.set_cons_zero, List.set_cons_succ])
                    refine wpAnyH_take (i := 15) (oi := ({ dst := some 85, op := Op.indexAddr 32 (Operand.tmp 83) (Operand.tmp 84), type := 0, pos := "outright.go:95", after := #[{ on := 13, ground := Ground.data }, { on := 14, ground := Ground.data }, { on := 8, ground := Ground.guard }], guard := some (8, true) } : Oper)) (v := ?vb15) rfl (by kernel_rfl) (by kernel_rfl) (by kernel_rfl) (fun _ _ _ h => h) (Or.inl ⟨by rfl, fun w hSw => ?hyb15⟩) (by assumption) ?rb15
                    case hyb15 => (try dsimp only at hSw); go_simp; (try with_reducible rfl)
                    (try simp only [Act.put, List.setIfInBounds_toArray, List.set_cons_zero, List.set_cons_succ])
                    refine wpAnyH_take (i := 16) (oi := ({ dst := some 86, op := Op.load 39 (Operand.tmp 85), type := 39, pos := "outright.go:95", after := #[{ on := 15, ground := Ground.data }, { on := 8, ground := Ground.guard }], guard := some (8, true) } : Oper)) (v := ?vb16) rfl (by kernel_rfl) (by kernel_rfl) (by kernel_rfl) (fun _ _ _ h => h) (Or.inl ⟨by rfl, fun w hSw => ?hyb16⟩) (by assumption) ?rb16
                    case hyb16 => (try dsimp only at hSw); go_simp; (try with_reducible rfl)
                    (try simp only [Act.put, List.setIfInBounds_toArray, List.set_cons_zero, List.set_cons_succ])
                    refine wpAnyH_take (i := 17) (oi := ({ dst := some 87, op := Op.move (Operand.tmp 10), type := 22, pos := "outright.go:95", after := #[{ on := 8, ground := Ground.guard }], guard := some (8, true) } : Oper)) (v := ?vb17) rfl (by kernel_rfl) (by kernel_rfl) (by kernel_rfl) (fun _ _ _ h => h) (Or.inl ⟨by rfl, fun w hSw => ?hyb17⟩) (by assumption) ?rb17
                    case hyb17 => (try dsimp only at hSw); go_simp; (try with_reducible rfl)
                    (try simp only [Act.put, List.setIfInBounds_toArray, List.set_cons_zero, List.set_cons_succ])
                    refine wpAnyH_take (i := 18) (oi := ({ dst := some 88, op := Op.move (Operand.tmp 13), type := 3, pos := "outright.go:95", after := #[{ on := 8, ground := Ground.guard }], guard := some (8, true) } : Oper)) (v := ?vb18) rfl (by kernel_rfl) (by kernel_rfl) (by kernel_rfl) (fun _ _ _ h => h) (Or.inl ⟨by rfl, fun w hSw => ?hyb18⟩) (by assumption) ?rb18
                    case hyb18 => (try dsimp only at hSw); go_simp; (try with_reducible rfl)
                    (try simp only [Act.put, List.setIfInBounds_toArray, List.set_cons_zero, List.set_cons_succ])
                    refine wpAnyH_take (i := 19) (oi := ({ dst := some 89, op := Op.indexAddr 22 (Operand.tmp 87) (Operand.tmp 88), type := 0, pos := "outright.go:95", after := #[{ on := 17, ground := Ground.data }, { on := 18, ground := Ground.data }, { on := 8, ground := Ground.guard }], guard := some (8, true) } : Oper)) (v := ?vb19) rfl (by kernel_rfl) (by kernel_rfl) (by kernel_rfl) (fun _ _ _ h => h) (Or.inl ⟨by rfl, fun w hSw => ?hyb19⟩) (by assumption) ?rb19
                    case hyb19 => (try dsimp only at hSw); go_simp; (try with_reducible rfl)
                    (try simp only [Act.put, List.setIfInBounds_toArray, List.set_cons_zero, List.set_cons_succ])
                    refine wpAnyH_take (i := 20) (oi := ({ dst := some 90, op := Op.load 32 (Operand.tmp 89), type := 32, pos := "outright.go:95", after := #[{ on := 19, ground := Ground.data }, { on := 8, ground := Ground.guard }], guard := some (8, true) } : Oper)) (v := ?vb20) rfl (by kernel_rfl) (by kernel_rfl) (by kernel_rfl) (fun _ _ _ h => h) (Or.inl ⟨by rfl, fun w hSw => ?hyb20⟩) (by assumption) ?rb20
                    case hyb20 => (try dsimp only at hSw); go_simp; (try with_reducible rfl)
                    (try simp only [Act.put, List.setIfInBounds_toArray, List.set_cons_zero, List.set_cons_succ])
                    refine wpAnyH_take (i := 21) (oi := ({ dst := some 91, op := Op.move (Operand.tmp 16), type := 3, pos := "outright.go:95", after := #[{ on := 8, ground := Ground.guard }], guard := some (8, true) } : Oper)) (v := ?vb21) rfl (by kernel_rfl) (by kernel_rfl) (by kernel_rfl) (fun _ _ _ h => h) (Or.inl ⟨by rfl, fun w hSw => ?hyb21⟩) (by assumption) ?rb21
                    case hyb21 => (try dsimp only at hSw); go_simp; (try with_reducible rfl)
                    (try simp only [Act.put, List.setIfInBounds_toArray, List.set_cons_zero, List.set_cons_succ])
                    refine wpAnyH_take (i := 22) (oi := ({ dst := some 92, op := Op.indexAddr 32 (Operand.tmp 90) (Operand.tmp 91), type := 0, pos := "outright.go:95", after := #[{ on := 20, ground := Ground.data }, { on := 21, ground := Ground.data }, { on := 8, ground := Ground.guard }], guard := some (8, true) } : Oper)) (v := ?vb22) rfl (by kernel_rfl) (by kernel_rfl) (by kernel_rfl) (fun _ _ _ h => h) (Or.inl ⟨by rfl, fun w hSw => ?hyb22⟩) (by assumption) ?rb22
                    case hyb22 => (try dsimp only at hSw); go_simp; (try with_reducible rfl)
                    (try simp only [Act.put, List.setIfInBounds_toArray, List.set_cons_zero, List.set_cons_succ])
                    refine wpAnyH_take (i := 23) (oi := ({ dst := some 93, op := Op.load 39 (Operand.tmp 92), type := 39, pos := "outright.go:95", after := #[{ on := 22, ground := Ground.data }, { on := 8, ground := Ground.guard }], guard := some (8, true) } : Oper)) (v := ?vb23) rfl (by kernel_rfl) (by kernel_rfl) (by kernel_rfl) (fun _ _ _ h => h) (Or.inl ⟨by rfl, fun w hSw => ?hyb23⟩) (by assumption) ?rb23
                    case hyb23 => (try dsimp only at hSw); go_simp; (try with_reducible rfl)
                    (try simp only [Act.put, List.setIfInBounds_toArray, List.set_cons_zero, List.set_cons_succ])
                    refine wpAnyH_take (i := 24) (oi := ({ dst := some 94, op := Op.binOp BinOp.eql 39 (Operand.tmp 86) (Operand.tmp 93) 39, type := 4, pos := "outright.go:95", after := #[{ on := 16, ground := Ground.data }, { on := 23, ground := Ground.data }, { on := 8, ground := Ground.guard }], guard := some (8, true) } : Oper)) (v := ?vb24) rfl (by kernel_rfl) (by kernel_rfl) (by kernel_rfl) (fun _ _ _ h => h) (Or.inl ⟨by rfl, fun w hSw => ?hyb24⟩) (by assumption) ?rb24
                    case hyb24 => (try dsimp only at hSw); go_simp; (try with_reducible rfl)
                    (try simp only [Act.put, List.setIfInBounds_toArray, List.set_cons_zero, List.set_cons_succ])
                    refine wpAnyH_take (i := 25) (oi := ({ dst := some 95, op := Op.pick (Operand.tmp 78) (Operand.tmp 94) (Operand.const (Value.bool false)), type := 4, pos := "outright.go:95", after := #[{ on := 8, ground := Ground.data }, { on := 24, ground := Ground.data }], guard := none } : Oper)) (v := ?vb25) rfl (by kernel_rfl) (by kernel_rfl) (by kernel_rfl) (fun _ _ _ h => h) (Or.inl ⟨by rfl, fun w hSw => ?hyb25⟩) (by assumption) ?rb25
                    case hyb25 => (try dsimp only at hSw); go_simp; (try with_reducible rfl)
                    (try simp only [Act.put, List.setIfInBounds_toArray, List.set_cons_zero, List.set_cons_succ])
                    refine wpAnyH_take (i := 26) (oi := ({ dst := some 96, op := Op.move (Operand.tmp 95), type := 4, pos := "outright.go:95", after := #[{ on := 25, ground := Ground.data }, { on := 8, ground := Ground.chain }], guard := none } : Oper)) (v := ?vb26) rfl (by kernel_rfl) (by kernel_rfl) (by kernel_rfl) (fun _ _ _ h => h) (Or.inl ⟨by rfl, fun w hSw => ?hyb26⟩) (by assumption) ?rb26
                    case hyb26 => (try dsimp only at hSw); go_simp; (try with_reducible rfl)
                    (try simp only [Act.put, List.setIfInBounds_toArray, List.set_cons_zero, List.set_cons_succ])
                    refine wpAnyH_take (i := 27) (oi := ({ dst := some 97, op := Op.move (Operand.tmp 10), type := 22, pos := "outright.go:95", after := #[{ on := 26, ground := Ground.guard }], guard := some (26, true) } : Oper)) (v := undef) rfl (by kernel_rfl) (by kernel_rfl) (by kernel_rfl) (fun _ _ _ h => h) (Or.inr ⟨by rfl, rfl⟩) (by assumption) ?_
                    (try simp only [Act.put, List.setIfInBounds_toArray, List.set_cons_zero, List.set_cons_succ])
                    refine wpAnyH_take (i := 28) (oi := ({ dst := some 98, op := Op.move (Operand.tmp 13), type := 3, pos := "outright.go:95", after := #[{ on := 26, ground := Ground.guard }], guard := some (26, true) } : Oper)) (v := undef) rfl (by kernel_rfl) (by kernel_rfl) (by kernel_rfl) (fun _ _ _ h => h) (Or.inr ⟨by rfl, rfl⟩) (by assumption) ?_
                    (try simp only [Act.put, List.setIfInBounds_toArray, List.set_cons_zero, List.set_cons_succ])
                    refine wpAnyH_take (i := 29) (oi := ({ dst := some 99, op := Op.indexAddr 22 (Operand.tmp 97) (Operand.tmp 98), type := 0, pos := "outright.go:95", after := #[{ on := 27, ground := Ground.data }, { on := 28, ground := Ground.data }, { on := 26, ground := Ground.guard }], guard := some (26, true) } : Oper)) (v := undef) rfl (by kernel_rfl) (by kernel_rfl) (by kernel_rfl) (fun _ _ _ h => h) (Or.inr ⟨by rfl, rfl⟩) (by assumption) ?_
                    (try simp only [Act.put, List.setIfInBounds_toArray, List.set_cons_zero, List.set_cons_succ])
                    refine wpAnyH_take (i := 30) (oi := ({ dst := some 100, op := Op.load 32 (Operand.tmp 99), type := 32, pos := "outright.go:95", after := #[{ on := 29, ground := Ground.data }, { on := 26, ground := Ground.guard }], guard := some (26, true) } : Oper)) (v := undef) rfl (by kernel_rfl) (by kernel_rfl) (by kernel_rfl) (fun _ _ _ h => h) (Or.inr ⟨by rfl, rfl⟩) (by assumption) ?_
                    (try simp only [Act.put, List.setIfInBounds_toArray, List.set_cons_zero, List.set_cons_succ])
                    refine wpAnyH_take (i := 31) (oi := ({ dst := some 101, op := Op.move (Operand.tmp 16), type := 3, pos := "outright.go:95", after := #[{ on := 26, ground := Ground.guard }], guard := some (26, true) } : Oper)) (v := undef) rfl (by kernel_rfl) (by kernel_rfl) (by kernel_rfl) (fun _ _ _ h => h) (Or.inr ⟨by rfl, rfl⟩) (by assumption) ?_
                    (try simp only [Act.put, List.setIfInBounds_toArray, List.set_cons_zero, List.set_cons_succ])
                    refine wpAnyH_take (i := 32) (oi := ({ dst := some 102, op := Op.indexAddr 32 (Operand.tmp 100) (Operand.tmp 101), type := 0, pos := "outright.go:95", after := #[{ on := 30, ground := Ground.data }, { on := 31, ground := Ground.data }, { on := 26, ground := Ground.guard }], guard := some (26, true) } : Oper)) (v := undef) rfl (by kernel_rfl) (by kernel_rfl) (by kernel_rfl) (fun _ _ _ h => h) (Or.inr ⟨by rfl, rfl⟩) (by assumption) ?_
                    (try simp only [Act.put, List.setIfInBounds_toArray, List.set_cons_zero, List.set_cons_succ])
                    refine wpAnyH_take (i := 33) (oi := ({ dst := some 103, op := Op.fieldAddr 39 (Operand.tmp 102) 1, type := 0, pos := "outright.go:95", after := #[{ on := 32, ground := Ground.data }, { on := 26, ground := Ground.guard }], guard := some (26, true) } : Oper)) (v := undef) rfl (by kernel_rfl) (by kernel_rfl) (by kernel_rfl) (fun _ _ _ h => h) (Or.inr ⟨by rfl, rfl⟩) (by assumption) ?_
                    (try simp only [Act.put, List.setIfInBounds_toArray, List.set_cons_zero, List.set_cons_succ])
                    refine wpAnyH_take (i := 34) (oi := ({ dst := some 104, op := Op.load 36 (Operand.tmp 103), type := 36, pos := "outright.go:95", after := #[{ on := 33, ground := Ground.data }, { on := 26, ground := Ground.guard }], guard := some (26, true) } : Oper)) (v := undef) rfl (by kernel_rfl) (by kernel_rfl) (by kernel_rfl) (fun _ _ _ h => h) (Or.inr ⟨by rfl, rfl⟩) (by assumption) ?_
                    (try simp only [Act.put, List.setIfInBounds_toArray, List.set_cons_zero, List.set_cons_succ])
                    refine wpAnyH_take (i := 35) (oi := ({ dst := some 105, op := Op.move (Operand.tmp 11), type := 3, pos := "outright.go:95", after := #[{ on := 26, ground := Ground.guard }], guard := some (26, true) } : Oper)) (v := undef) rfl (by kernel_rfl) (by kernel_rfl) (by kernel_rfl) (fun _ _ _ h => h) (Or.inr ⟨by rfl, rfl⟩) (by assumption) ?_
                    (try simp only [Act.put, List.setIfInBounds_toArray, List.set_cons_zero, List.set_cons_succ])
                    refine wpAnyH_take (i := 36) (oi := ({ dst := some 106, op := Op.call { callee := Callee.value (Operand.func 16), args := #[Operand.tmp 104, Operand.tmp 105], argTypes := #[36, 3] }, type := 3, pos := "outright.go:95", after := #[{ on := 34, ground := Ground.data }, { on := 35, ground := Ground.data }, { on := 26, ground := Ground.chain }, { on := 26, ground := Ground.guard }], guard := some (26, true) } : Oper)) (v := undef) rfl (by kernel_rfl) (by kernel_rfl) (by kernel_rfl) (fun _ _ _ h => h) (Or.inr ⟨by rfl, rfl⟩) (by assumption) ?_
                    (try simp only [Act.put, List.setIfInBounds_toArray, List.set_cons_zero, List.set_cons_succ])
                    refine wpAnyH_take (i := 37) (oi := ({ dst := some 107, op := Op.move (Operand.tmp 13), type := 3, pos := "outright.go:95", after := #[{ on := 26, ground := Ground.guard }], guard := some (26, true) } : Oper)) (v := undef) rfl (by kernel_rfl) (by kernel_rfl) (by kernel_rfl) (fun _ _ _ h => h) (Or.inr ⟨by rfl, rfl⟩) (by assumption) ?_
                    (try simp only [Act.put, List.setIfInBounds_toArray, List.set_cons_zero, List.set_cons_succ])
                    refine wpAnyH_take (i := 38) (oi := ({ dst := some 108, op := Op.binOp BinOp.mul 3 (Operand.const (Value.int IntKind.i64 2)) (Operand.tmp 107) 3, type := 3, pos := "outright.go:95", after := #[{ on := 37, ground := Ground.data }, { on := 26, ground := Ground.guard }], guard := some (26, true) } : Oper)) (v := undef) rfl (by kernel_rfl) (by kernel_rfl) (by kernel_rfl) (fun _ _ _ h => h) (Or.inr ⟨by rfl, rfl⟩) (by assumption) ?_
                    (try simp only [Act.put, List.setIfInBounds_toArray, List.set_cons_zero, List.set_cons_succ])
                    refine wpAnyH_take (i := 39) (oi := ({ dst := some 109, op := Op.binOp BinOp.eql 3 (Operand.tmp 106) (Operand.tmp 108) 3, type := 4, pos := "outright.go:95", after := #[{ on := 36, ground := Ground.data }, { on := 38, ground := Ground.data }, { on := 26, ground := Ground.guard }], guard := some (26, true) } : Oper)) (v := undef) rfl (by kernel_rfl) (by kernel_rfl) (by kernel_rfl) (fun _ _ _ h => h) (Or.inr ⟨by rfl, rfl⟩) (by assumption) ?_
                    (try simp only [Act.put, List.setIfInBounds_toArray, List.set_cons_zero, List.set_cons_succ])
                    refine wpAnyH_take (i := 40) (oi := ({ dst := some 110, op := Op.pick (Operand.tmp 96) (Operand.tmp 109) (Operand.const (Value.bool false)), type := 4, pos := "outright.go:95", after := #[{ on := 26, ground := Ground.data }, { on := 39, ground := Ground.data }], guard := none } : Oper)) (v := ?vb40) rfl (by kernel_rfl) (by kernel_rfl) (by kernel_rfl) (fun _ _ _ h => h) (Or.inl ⟨by rfl, fun w hSw => ?hyb40⟩) (by assumption) ?rb40
                    case hyb40 => (try dsimp only at hSw); go_simp; (try with_reducible rfl)
                    (try simp only [Act.put, List.setIfInBounds_toArray, List.set_cons_zero, List.set_cons_succ])
                    refine wpAnyH_done (by kernel_rfl) ?_ _
                    clear hHeld hneq cf0 cf1 cf2
                    have heqd := HEQ.out
                    obtain ⟨g2, o2, hA2, hg2', cg0, cg1, cg2⟩ := HRR.out
                    subst hA2
                    go_upto_region 23 with (fail)
                    refine wp_region_held_drew (S := fun w' => w'.cell? ⟨gd, od + j3, none⟩ = some (.slice (some ⟨g2, o2, none⟩) X1 c2) ∧ (w'.cell? ⟨gc, oc + i, none⟩ = some (.slice (some ⟨g1, o1, none⟩) M c1)) ∧ (w'.cell? ⟨g1, o1 + k * 3, none⟩ = some (.int .i64 d.t) ∧ w'.cell? ⟨g1, o1 + k * 3 + 1, none⟩ = some (.int .u32 (kk : Int)) ∧ w'.cell? ⟨g1, o1 + k * 3 + 2, none⟩ = some (.int .u64 d.z)) ∧ (w'.cell? ⟨g2, o2 + y * 3, none⟩ = some (.int .i64 d.t) ∧ w'.cell? ⟨g2, o2 + y * 3 + 1, none⟩ = some (.int .u32 (kk : Int)) ∧ w'.cell? ⟨g2, o2 + y * 3 + 2, none⟩ = some (.int .u64 d.z))) (by kernel_rfl) ?_ (fun hHeld => ?_)
                    · exact ⟨cd1, cc, ⟨ce0, ce1, ce2⟩, ⟨cg0, cg1, cg2⟩⟩
                    refine wpAnyH_take (i := 0) (oi := ({ dst := some 113, op := Op.move (Operand.tmp 15), type := 3, pos := "outright.go:97", after := #[], guard := none } : Oper)) (v := ?vd0) rfl (by kernel_rfl) (by kernel_rfl) (by kernel_rfl) (fun _ _ _ h => h) (Or.inl ⟨by rfl, fun w hSw => ?hyd0⟩) (by assumption) ?rd0
                    case hyd0 => (try dsimp only at hSw); go_simp; (try with_reducible rfl)
                    (try simp only [Act.put, List.setIfInBounds_toArray, List.set_cons_zero, List.set_cons_succ])
                    refine wpAnyH_take (i := 1) (oi := ({ dst := some 114, op := Op.move (Operand.tmp 12), type := 22, pos := "outright.go:97", after := #[], guard := none } : Oper)) (v := ?vd1) rfl (by kernel_rfl) (by kernel_rfl) (by kernel_rfl) (fun _ _ _ h => h) (Or.inl ⟨by rfl, fun w hSw => ?hyd1⟩) (by assumption) ?rd1
                    case hyd1 => (try dsimp only at hSw); go_simp; (try with_reducible rfl)
                    (try simp only [Act.put, List.setIfInBounds_toArray, List.set_cons_zero, List.set_cons_succ])
                    refine wpAnyH_take (i := 2) (oi := ({ dst := some 115, op := Op.move (Operand.tmp 13), type := 3, pos := "outright.go:97", after := #[], guard := none } : Oper)) (v := ?vd2) rfl (by kernel_rfl) (by kernel_rfl) (by kernel_rfl) (fun _ _ _ h => h) (Or.inl ⟨by rfl, fun w hSw => ?hyd2⟩) (by assumption) ?rd2
                    case hyd2 => (try dsimp only at hSw); go_simp; (try with_reducible rfl)
                    (try simp only [Act.put, List.setIfInBounds_toArray, List.set_cons_zero, List.set_cons_succ])
                    refine wpAnyH_take (i := 3) (oi := ({ dst := some 116, op := Op.binOp BinOp.mul 3 (Operand.const (Value.int IntKind.i64 2)) (Operand.tmp 115) 3, type := 3, pos := "outright.go:97", after := #[{ on := 2, ground := Ground.data }], guard := none } : Oper)) (v := ?vd3) rfl (by kernel_rfl) (by kernel_rfl) (by kernel_rfl) (fun _ _ _ h => h) (Or.inl ⟨by rfl, fun w hSw => ?hyd3⟩) (by assumption) ?rd3
                    case hyd3 => (try dsimp only at hSw); go_simp; (try with_reducible rfl)
                    (try simp only [Act.put, List.setIfInBounds_toArray, List.set_cons_zero, List.set_cons_succ])
                    refine wpAnyH_take (i := 4) (oi := ({ dst := some 117, op := Op.binOp BinOp.add 3 (Operand.tmp 116) (Operand.const (Value.int IntKind.i64 1)) 3, type := 3, pos := "outright.go:97", after := #[{ on := 3, ground := Ground.data }], guard := none } : Oper)) (v := ?vd4) rfl (by kernel_rfl) (by kernel_rfl) (by kernel_rfl) (fun _ _ _ h => h) (Or.inl ⟨by rfl, fun w hSw => ?hyd4⟩) (by assumption) ?rd4
                    case hyd4 => (try dsimp only at hSw); go_simp; (try with_reducible rfl)
                    (try simp only [Act.put, List.setIfInBounds_toArray, List.set_cons_zero, List.set_cons_succ])
                    refine wpAnyH_take (i := 5) (oi := ({ dst := some 118, op := Op.indexAddr 22 (Operand.tmp 114) (Operand.tmp 117), type := 0, pos := "outright.go:97", after := #[{ on := 1, ground := Ground.data }, { on := 4, ground := Ground.data }], guard := none } : Oper)) (v := ?vd5) rfl (by kernel_rfl) (by kernel_rfl) (by kernel_rfl) (fun _ _ _ h => h) (Or.inl ⟨by rfl, fun w hSw => ?hyd5⟩) (by assumption) ?rd5
                    case hyd5 => (try dsimp only at hSw); go_simp; (try with_reducible rfl)
                    (try simp only [Act.put, List.setIfInBounds_toArray, List.set_cons_zero, List.set_cons_succ])
                    refine wpAnyH_take (i := 6) (oi := ({ dst := some 119, op := Op.load 32 (Operand.tmp 118), type := 32, pos := "outright.go:97", after := #[{ on := 5, ground := Ground.data }], guard := none } : Oper)) (v := ?vd6) rfl (by kernel_rfl) (by kernel_rfl) (by kernel_rfl) (fun _ _ _ h => h) (Or.inl ⟨by rfl, fun w hSw => ?hyd6⟩) (by assumption) ?rd6
                    case hyd6 => (try dsimp only at hSw); go_simp; (try with_reducible rfl)
                    (try simp only [Act.put, List.setIfInBounds_toArray, List.set_cons_zero, List.set_cons_succ])
                    refine wpAnyH_take (i := 7) (oi := ({ dst := some 120, op := Op.call { callee := Callee.builtin Builtin.len, args := #[Operand.tmp 119], argTypes := #[32] }, type := 3, pos := "outright.go:97", after := #[{ on := 6, ground := Ground.data }], guard := none } : Oper)) (v := ?vd7) rfl (by kernel_rfl) (by kernel_rfl) (by kernel_rfl) (fun _ _ _ h => h) (Or.inl ⟨by rfl, fun w hSw => ?hyd7⟩) (by assumption) ?rd7
                    case hyd7 => (try dsimp only at hSw); go_simp; (try with_reducible rfl)
                    (try simp only [Act.put, List.setIfInBounds_toArray, List.set_cons_zero, List.set_cons_succ])
                    refine wpAnyH_take (i := 8) (oi := ({ dst := some 121, op := Op.binOp BinOp.lss 3 (Operand.tmp 113) (Operand.tmp 120) 3, type := 4, pos := "outright.go:97", after := #[{ on := 0, ground := Ground.data }, { on := 7, ground := Ground.data }], guard := none } : Oper)) (v := ?vd8) rfl (by kernel_rfl) (by kernel_rfl) (by kernel_rfl) (fun _ _ _ h => h) (Or.inl ⟨by rfl, fun w hSw => ?hyd8⟩) (by assumption) ?rd8
                    case hyd8 => (try dsimp only at hSw); go_simp; (try with_reducible rfl)
                    (try simp only [Act.put, List.setIfInBounds_toArray, List.set_cons_zero, List.set_cons_succ])
                    refine wpAnyH_take (i := 9) (oi := ({ dst := some 122, op := Op.move (Operand.tmp 121), type := 4, pos := "outright.go:97", after := #[{ on := 8, ground := Ground.data }], guard := none } : Oper)) (v := ?vd9) rfl (by kernel_rfl) (by kernel_rfl) (by kernel_rfl) (fun _ _ _ h => h) (Or.inl ⟨by rfl, fun w hSw => ?hyd9⟩) (by assumption) ?rd9
                    case hyd9 => (try dsimp only at hSw); go_simp; (try with_reducible rfl)
                    (try simp only [Act.put, List.setIfInBounds_toArray, List.set_cons_zero, List.set_cons_succ])
                    refine wpAnyH_take (i := 10) (oi := ({ dst := some 123, op := Op.move (Operand.tmp 12), type := 22, pos := "outright.go:97", after := #[{ on := 9, ground := Ground.guard }], guard := some (9, true) } : Oper)) (v := ?vd10) rfl (by kernel_rfl) (by kernel_rfl) (by kernel_rfl) (fun _ _ _ h => h) (Or.inl ⟨by rfl, fun w hSw => ?hyd10⟩) (by assumption) ?rd10
                    case hyd10 => (try dsimp only at hSw); go_simp; (try with_reducible rfl)
                    (try simp only [Act.put, List.setIfInBounds_toArray, List.set_cons_zero, List.set_cons_succ])
                    refine wpAnyH_take (i := 11) (oi := ({ dst := some 124, op := Op.move (Operand.tmp 13), type := 3, pos := "outright.go:97", after := #[{ on := 9, ground := Ground.guard }], guard := some (9, true) } : Oper)) (v := ?vd11) rfl (by kernel_rfl) (by kernel_rfl) (by kernel_rfl) (fun _ _ _ h => h) (Or.inl ⟨by rfl, fun w hSw => ?hyd11⟩) (by assumption) ?rd11
                    case hyd11 => (try dsimp only at hSw); go_simp; (try with_reducible rfl)
                    (try simp only [Act.put, List.setIfInBounds_toArray, List.set_cons_zero, List.set_cons_succ])
                    refine wpAnyH_take (i := 12) (oi := ({ dst := some 125, op := Op.binOp BinOp.mul 3 (Operand.const (Value.int IntKind.i64 2)) (Operand.tmp 124) 3, type := 3, pos := "outright.go:97", after := #[{ on := 11, ground := Ground.data }, { on := 9, ground := Ground.guard }], guard := some (9, true) } : Oper)) (v := ?vd12) rfl (by kernel_rfl) (by kernel_rfl) (by kernel_rfl) (fun _ _ _ h => h) (Or.inl ⟨by rfl, fun w hSw => ?hyd12⟩) (by assumption) ?rd12
                    case hyd12 => (try dsimp only at hSw); go_simp; (try with_reducible rfl)
                    (try simp only [Act.put, List.setIfInBounds_toArray, List.set_cons_zero, List.set_cons_succ])
                    refine wpAnyH_take (i := 13) (oi := ({ dst := some 126, op := Op.binOp BinOp.add 3 (Operand.tmp 125) (Operand.const (Value.int IntKind.i64 1)) 3, type := 3, pos := "outright.go:97", after := #[{ on := 12, ground := Ground.data }, { on := 9, ground := Ground.guard }], guard := some (9, true) } : Oper)) (v := ?vd13) rfl (by kernel_rfl) (by kernel_rfl) (by kernel_rfl) (fun _ _ _ h => h) (Or.inl ⟨by rfl, fun w hSw => ?hyd13⟩) (by assumption) ?rd13
                    case hyd13 => (try dsimp only at hSw); go_simp; (try with_reducible rfl)
                    (try simp only [Act.put, List.setIfInBounds_toArray, List.set_cons_zero, List.set_cons_succ])
                    refine wpAnyH_take (i := 14) (oi := ({ dst := some 127, op := Op.indexAddr 22 (Operand.tmp 123) (Operand.tmp 126), type := 0, pos := "outright.go:97", after := #[{ on := 10, ground := Ground.data }, { on := 13, ground := Ground.data }, { on := 9, ground := Ground.guard }], guard := some (9, true) } : Oper)) (v := ?vd14) rfl (by kernel_rfl) (by kernel_rfl) (by kernel_rfl) (fun _ _ _ h => h) (Or.inl ⟨by rfl, fun w hSw => ?hyd14⟩) (by assumption) ?rd14
                    case hyd14 => (try dsimp only at hSw); go_simp; (try with_reducible rfl)
                    (try simp only [Act.put, List.setIfInBounds_toArray, List.set_cons_zero, List.set_cons_succ])
                    refine wpAnyH_take (i := 15) (oi := ({ dst := some 128, op := Op.load 32 (Operand.tmp 127), type := 32, pos := "outright.go:97", after := #[{ on := 14, ground := Ground.data }, { on := 9, ground := Ground.guard }], guard := some (9, true) } : Oper)) (v := ?vd15) rfl (by kernel_rfl) (by kernel_rfl) (by kernel_rfl) (fun _ _ _ h => h) (Or.inl ⟨by rfl, fun w hSw => ?hyd15⟩) (by assumption) ?rd15
                    case hyd15 => (try dsimp only at hSw); go_simp; (try with_reducible rfl)
                    (try simp only [Act.put, List.setIfInBounds_toArray, List.set_cons_zero, List.set_cons_succ])
                    refine wpAnyH_take (i := 16) (oi := ({ dst := some 129, op := Op.move (Operand.tmp 15), type := 3, pos := "outright.go:97", after := #[{ on := 9, ground := Ground.guard }], guard := some (9, true) } : Oper)) (v := ?vd16) rfl (by kernel_rfl) (by kernel_rfl) (by kernel_rfl) (fun _ _ _ h => h) (Or.inl ⟨by rfl, fun w hSw => ?hyd16⟩) (by assumption) ?rd16
                    case hyd16 => (try dsimp only at hSw); go_simp; (try with_reducible rfl)
                    (try simp only [Act.put, List.setIfInBounds_toArray, List.set_cons_zero, List.set_cons_succ])
                    refine wpAnyH_take (i := 17) (oi := ({ dst := some 130, op := Op.indexAddr 32 (Operand.tmp 128) (Operand.tmp 129), type := 0, pos := "outright.go:97", after := #[{ on := 15, ground := Ground.data }, { on := 16, ground := Ground.data }, { on := 9, ground := Ground.guard }], guard := some (9, true) } : Oper)) (v := ?vd17) rfl (by kernel_rfl) (by kernel_rfl) (by kernel_rfl) (fun _ _ _ h => h) (Or.inl ⟨by rfl, fun w hSw => ?hyd17⟩) (by assumption) ?rd17
                    case hyd17 => (try dsimp only at hSw); go_simp; (try with_reducible rfl)
                    (try simp only [Act.put, List.setIfInBounds_toArray, List.set_cons_zero, List.set_cons_succ])
                    refine wpAnyH_take (i := 18) (oi := ({ dst := some 131, op := Op.load 39 (Operand.tmp 130), type := 39, pos := "outright.go:97", after := #[{ on := 17, ground := Ground.data }, { on := 9, ground := Ground.guard }], guard := some (9, true) } : Oper)) (v := ?vd18) rfl (by kernel_rfl) (by kernel_rfl) (by kernel_rfl) (fun _ _ _ h => h) (Or.inl ⟨by rfl, fun w hSw => ?hyd18⟩) (by assumption) ?rd18
                    case hyd18 => (try dsimp only at hSw); go_simp; (try with_reducible rfl)
                    (try simp only [Act.put, List.setIfInBounds_toArray, List.set_cons_zero, List.set_cons_succ])
                    refine wpAnyH_take (i := 19) (oi := ({ dst := some 132, op := Op.move (Operand.tmp 10), type := 22, pos := "outright.go:97", after := #[{ on := 9, ground := Ground.guard }], guard := some (9, true) } : Oper)) (v := ?vd19) rfl (by kernel_rfl) (by kernel_rfl) (by kernel_rfl) (fun _ _ _ h => h) (Or.inl ⟨by rfl, fun w hSw => ?hyd19⟩) (by assumption) ?rd19
                    case hyd19 => (try dsimp only at hSw); go_simp; (try with_reducible rfl)
                    (try simp only [Act.put, List.setIfInBounds_toArray, List.set_cons_zero, List.set_cons_succ])
                    refine wpAnyH_take (i := 20) (oi := ({ dst := some 133, op := Op.move (Operand.tmp 13), type := 3, pos := "outright.go:97", after := #[{ on := 9, ground := Ground.guard }], guard := some (9, true) } : Oper)) (v := ?vd20) rfl (by kernel_rfl) (by kernel_rfl) (by kernel_rfl) (fun _ _ _ h => h) (Or.inl ⟨by rfl, fun w hSw => ?hyd20⟩) (by assumption) ?rd20
                    case hyd20 => (try dsimp only at hSw); go_simp; (try with_reducible rfl)
                    (try simp only [Act.put, List.setIfInBounds_toArray, List.set_cons_zero, List.set_cons_succ])
                    refine wpAnyH_take (i := 21) (oi := ({ dst := some 134, op := Op.indexAddr 22 (Operand.tmp 132) (Operand.tmp 133), type := 0, pos := "outright.go:97", after := #[{ on := 19, ground := Ground.data }, { on := 20, ground := Ground.data }, { on := 9, ground := Ground.guard }], guard := some (9, true) } : Oper)) (v := ?vd21) rfl (by kernel_rfl) (by kernel_rfl) (by kernel_rfl) (fun _ _ _ h => h) (Or.inl ⟨by rfl, fun w hSw => ?hyd21⟩) (by assumption) ?rd21
                    case hyd21 => (try dsimp only at hSw); go_simp; (try with_reducible rfl)
                    (try simp only [Act.put, List.setIfInBounds_toArray, List.set_cons_zero, List.set_cons_succ])
                    refine wpAnyH_take (i := 22) (oi := ({ dst := some 135, op := Op.load 32 (Operand.tmp 134), type := 32, pos := "outright.go:97", after := #[{ on := 21, ground := Ground.data }, { on := 9, ground := Ground.guard }], guard := some (9, true) } : Oper)) (v := ?vd22) rfl (by kernel_rfl) (by kernel_rfl) (by kernel_rfl) (fun _ _ _ h => h) (Or.inl ⟨by rfl, fun w hSw => ?hyd22⟩) (by assumption) ?rd22
                    case hyd22 => (try dsimp only at hSw); go_simp; (try with_reducible rfl)
                    (try simp only [Act.put, List.setIfInBounds_toArray, List.set_cons_zero, List.set_cons_succ])
                    refine wpAnyH_take (i := 23) (oi := ({ dst := some 136, op := Op.move (Operand.tmp 16), type := 3, pos := "outright.go:97", after := #[{ on := 9, ground := Ground.guard }], guard := some (9, true) } : Oper)) (v := ?vd23) rfl (by kernel_rfl) (by kernel_rfl) (by kernel_rfl) (fun _ _ _ h => h) (Or.inl ⟨by rfl, fun w hSw => ?hyd23⟩) (by assumption) ?rd23
                    case hyd23 => (try dsimp only at hSw); go_simp; (try with_reducible rfl)
                    (try simp only [Act.put, List.setIfInBounds_toArray, List.set_cons_zero, List.set_cons_succ])
                    refine wpAnyH_take (i := 24) (oi := ({ dst := some 137, op := Op.indexAddr 32 (Operand.tmp 135) (Operand.tmp 136), type := 0, pos := "outright.go:97", after := #[{ on := 22, ground := Ground.data }, { on := 23, ground := Ground.data }, { on := 9, ground := Ground.guard }], guard := some (9, true) } : Oper)) (v := ?vd24) rfl (by kernel_rfl) (by kernel_rfl) (by kernel_rfl) (fun _ _ _ h => h) (Or.inl ⟨by rfl, fun w hSw => ?hyd24⟩) (by assumption) ?rd24
                    case hyd24 => (try dsimp only at hSw); go_simp; (try with_reducible rfl)
                    (try simp only [Act.put, List.setIfInBounds_toArray, List.set_cons_zero, List.set_cons_succ])
                    refine wpAnyH_take (i := 25) (oi := ({ dst := some 138, op := Op.load 39 (Operand.tmp 137), type := 39, pos := "outright.go:97", after := #[{ on := 24, ground := Ground.data }, { on := 9, ground := Ground.guard }], guard := some (9, true) } : Oper)) (v := ?vd25) rfl (by kernel_rfl) (by kernel_rfl) (by kernel_rfl) (fun _ _ _ h => h) (Or.inl ⟨by rfl, fun w hSw => ?hyd25⟩) (by assumption) ?rd25
                    case hyd25 => (try dsimp only at hSw); go_simp; (try with_reducible rfl)
                    (try simp only [Act.put, List.setIfInBounds_toArray, List.set_cons_zero, List.set_cons_succ])
                    refine wpAnyH_take (i := 26) (oi := ({ dst := some 139, op := Op.binOp BinOp.eql 39 (Operand.tmp 131) (Operand.tmp 138) 39, type := 4, pos := "outright.go:97", after := #[{ on := 18, ground := Ground.data }, { on := 25, ground := Ground.data }, { on := 9, ground := Ground.guard }], guard := some (9, true) } : Oper)) (v := ?vd26) rfl (by kernel_rfl) (by kernel_rfl) (by kernel_rfl) (fun _ _ _ h => h) (Or.inl ⟨by rfl, fun w hSw => ?hyd26⟩) (by assumption) ?rd26
                    case hyd26 => (try dsimp only at hSw); go_simp; (try with_reducible rfl)
                    (try simp only [Act.put, List.setIfInBounds_toArray, List.set_cons_zero, List.set_cons_succ])
                    refine wpAnyH_take (i := 27) (oi := ({ dst := some 140, op := Op.pick (Operand.tmp 122) (Operand.tmp 139) (Operand.const (Value.bool false)), type := 4, pos := "outright.go:97", after := #[{ on := 9, ground := Ground.data }, { on := 26, ground := Ground.data }], guard := none } : Oper)) (v := ?vd27) rfl (by kernel_rfl) (by kernel_rfl) (by kernel_rfl) (fun _ _ _ h => h) (Or.inl ⟨by rfl, fun w hSw => ?hyd27⟩) (by assumption) ?rd27
                    case hyd27 => (try dsimp only at hSw); go_simp; (try with_reducible rfl)
                    (try simp only [Act.put, List.setIfInBounds_toArray, List.set_cons_zero, List.set_cons_succ])
                    refine wpAnyH_done (by kernel_rfl) ?_ _
                    clear hHeld
                    go_wp2_with fail
                    go_roundg (M - (k + 1))
                    case measure => omega
                    case rel =>
                      have e0 := HS0.out
                      have e1 := HS1.out
                      rw [if_neg HCA.out] at e0
                      rw [if_pos HC3.out] at e1
                      refine ⟨k + 1, by omega, rfl, ?_, ?_, by go_num, HBK.out.drew.drew⟩
                      · rw [e0]; rfl
                      · rw [e1]; go_num
                  · have hxX' : ¬ (x : Int) < (X0 : Int) := by omega
                    clear hp0 hp1 hkk hhk hel hkd hcase hj2' hj3' hc3 hR1 heqd
                    go_upto_region 21 with (fail)
                    refine wp_region_held_drew (S := fun w' => w'.cell? ⟨gd, od + j2, none⟩ = some (.slice A0 X0 c0)) (by kernel_rfl) ?_ (fun hHeld => ?_)
                    · exact cd0
                    refine wpAnyH_take (i := 0) (oi := ({ dst := some 70, op := Op.move (Operand.tmp 14), type := 3, pos := "outright.go:95", after := #[], guard := none } : Oper)) (v := ?vc0) rfl (by kernel_rfl) (by kernel_rfl) (by kernel_rfl) (fun _ _ _ h => h) (Or.inl ⟨by rfl, fun w hSw => ?hyc0⟩) (by assumption) ?rc0
                    case hyc0 => (try dsimp only at hSw); go_simp; (try with_reducible rfl)
                    (try simp only [Act.put, List.setIfInBounds_toArray, List.set_cons_zero, List.set_cons_succ])
                    refine wpAnyH_take (i := 1) (oi := ({ dst := some 71, op := Op.move (Operand.tmp 12), type := 22, pos := "outright.go:95", after := #[], guard := none } : Oper)) (v := ?vc1) rfl (by kernel_rfl) (by kernel_rfl) (by kernel_rfl) (fun _ _ _ h => h) (Or.inl ⟨by rfl, fun w hSw => ?hyc1⟩) (by assumption) ?rc1
                    case hyc1 => (try dsimp only at hSw); go_simp; (try with_reducible rfl)
                    (try simp only [Act.put, List.setIfInBounds_toArray, List.set_cons_zero, List.set_cons_succ])
                    refine wpAnyH_take (i := 2) (oi := ({ dst := some 72, op := Op.move (Operand.tmp 13), type := 3, pos := "outright.go:95", after := #[], guard := none } : Oper)) (v := ?vc2) rfl (by kernel_rfl) (by kernel_rfl) (by kernel_rfl) (fun _ _ _ h => h) (Or.inl ⟨by rfl, fun w hSw => ?hyc2⟩) (by assumption) ?rc2
                    case hyc2 => (try dsimp only at hSw); go_simp; (try with_reducible rfl)
                    (try simp only [Act.put, List.setIfInBounds_toArray, List.set_cons_zero, List.set_cons_succ])
                    refine wpAnyH_take (i := 3) (oi := ({ dst := some 73, op := Op.binOp BinOp.mul 3 (Operand.const (Value.int IntKind.i64 2)) (Operand.tmp 72) 3, type := 3, pos := "outright.go:95", after := #[{ on := 2, ground := Ground.data }], guard := none } : Oper)) (v := ?vc3) rfl (by kernel_rfl) (by kernel_rfl) (by kernel_rfl) (fun _ _ _ h => h) (Or.inl ⟨by rfl, fun w hSw => ?hyc3⟩) (by assumption) ?rc3
                    case hyc3 => (try dsimp only at hSw); go_simp; (try with_reducible rfl)
                    (try simp only [Act.put, List.setIfInBounds_toArray, List.set_cons_zero, List.set_cons_succ])
                    refine wpAnyH_take (i := 4) (oi := ({ dst := some 74, op := Op.indexAddr 22 (Operand.tmp 71) (Operand.tmp 73), type := 0, pos := "outright.go:95", after := #[{ on := 1, ground := Ground.data }, { on := 3, ground := Ground.data }], guard := none } : Oper)) (v := ?vc4) rfl (by kernel_rfl) (by kernel_rfl) (by kernel_rfl) (fun _ _ _ h => h) (Or.inl ⟨by rfl, fun w hSw => ?hyc4⟩) (by assumption) ?rc4
                    case hyc4 => (try dsimp only at hSw); go_simp; (try with_reducible rfl)
                    (try simp only [Act.put, List.setIfInBounds_toArray, List.set_cons_zero, List.set_cons_succ])
                    refine wpAnyH_take (i := 5) (oi := ({ dst := some 75, op := Op.load 32 (Operand.tmp 74), type := 32, pos := "outright.go:95", after := #[{ on := 4, ground := Ground.data }], guard := none } : Oper)) (v := ?vc5) rfl (by kernel_rfl) (by kernel_rfl) (by kernel_rfl) (fun _ _ _ h => h) (Or.inl ⟨by rfl, fun w hSw => ?hyc5⟩) (by assumption) ?rc5
                    case hyc5 => (try dsimp only at hSw); go_simp; (try with_reducible rfl)
                    (try simp only [Act.put, List.setIfInBounds_toArray, List.set_cons_zero, List.set_cons_succ])
                    refine wpAnyH_take (i := 6) (oi := ({ dst := some 76, op := Op.call { callee := Callee.builtin Builtin.len, args := #[Operand.tmp 75], argTypes := #[32] }, type := 3, pos := "outright.go:95", after := #[{ on := 5, ground := Ground.data }], guard := none } : Oper)) (v := ?vc6) rfl (by kernel_rfl) (by kernel_rfl) (by kernel_rfl) (fun _ _ _ h => h) (Or.inl ⟨by rfl, fun w hSw => ?hyc6⟩) (by assumption) ?rc6
                    case hyc6 => (try dsimp only at hSw); go_simp; (try with_reducible rfl)
                    (try simp only [Act.put, List.setIfInBounds_toArray, List.set_cons_zero, List.set_cons_succ])
                    refine wpAnyH_take (i := 7) (oi := ({ dst := some 77, op := Op.binOp BinOp.lss 3 (Operand.tmp 70) (Operand.tmp 76) 3, type := 4, pos := "outright.go:95", after := #[{ on := 0, ground := Ground.data }, { on := 6, ground := Ground.data }], guard := none } : Oper)) (v := ?vc7) rfl (by kernel_rfl) (by kernel_rfl) (by kernel_rfl) (fun _ _ _ h => h) (Or.inl ⟨by rfl, fun w hSw => ?hyc7⟩) (by assumption) ?rc7
                    case hyc7 => (try dsimp only at hSw); go_simp; (try with_reducible rfl)
                    (try simp only [Act.put, List.setIfInBounds_toArray, List.set_cons_zero, List.set_cons_succ])
                    refine wpAnyH_take (i := 8) (oi := ({ dst := some 78, op := Op.move (Operand.tmp 77), type := 4, pos := "outright.go:95", after := #[{ on := 7, ground := Ground.data }], guard := none } : Oper)) (v := ?vc8) rfl (by kernel_rfl) (by kernel_rfl) (by kernel_rfl) (fun _ _ _ h => h) (Or.inl ⟨by rfl, fun w hSw => ?hyc8⟩) (by assumption) ?rc8
                    case hyc8 => (try dsimp only at hSw); go_simp; (try with_reducible rfl)
                    (try simp only [Act.put, List.setIfInBounds_toArray, List.set_cons_zero, List.set_cons_succ])
                    refine wpAnyH_take (i := 9) (oi := ({ dst := some 79, op := Op.move (Operand.tmp 12), type := 22, pos := "outright.go:95", after := #[{ on := 8, ground := Ground.guard }], guard := some (8, true) } : Oper)) (v := undef) rfl (by kernel_rfl) (by kernel_rfl) (by kernel_rfl) (fun _ _ _ h => h) (Or.inr ⟨by rfl, rfl⟩) (by assumption) ?_
                    (try simp only [Act.put, List.setIfInBounds_toArray, List.set_cons_zero, List.set_cons_succ])
                    refine wpAnyH_take (i := 10) (oi := ({ dst := some 80, op := Op.move (Operand.tmp 13), type := 3, pos := "outright.go:95", after := #[{ on := 8, ground := Ground.guard }], guard := some (8, true) } : Oper)) (v := undef) rfl (by kernel_rfl) (by kernel_rfl) (by kernel_rfl) (fun _ _ _ h => h) (Or.inr ⟨by rfl, rfl⟩) (by assumption) ?_
                    (try simp only [Act.put, List.setIfInBounds_toArray, List.set_cons_zero, List.set_cons_succ])
                    refine wpAnyH_take (i := 11) (oi := ({ dst := some 81, op := Op.binOp BinOp.mul 3 (Operand.const (Value.int IntKind.i64 2)) (Operand.tmp 80) 3, type := 3, pos := "outright.go:95", after := #[{ on := 10, ground := Ground.data }, { on := 8, ground := Ground.guard }], guard := some (8, true) } : Oper)) (v := undef) rfl (by kernel_rfl) (by kernel_rfl) (by kernel_rfl) (fun _ _ _ h => h) (Or.inr ⟨by rfl, rfl⟩) (by assumption) ?_
                    (try simp only [Act.put, List.setIfInBounds_toArray, List.set_cons_zero, List.set_cons_succ])
                    refine wpAnyH_take (i := 12) (oi := ({ dst := some 82, op := Op.indexAddr 22 (Operand.tmp 79) (Operand.tmp 81), type := 0, pos := "outright.go:95", after := #[{ on := 9, ground := Ground.data }, { on := 11, ground := Ground.data }, { on := 8, ground := Ground.guard }], guard := some (8, true) } : Oper)) (v := undef) rfl (by kernel_rfl) (by kernel_rfl) (by kernel_rfl) (fun _ _ _ h => h) (Or.inr ⟨by rfl, rfl⟩) (by assumption) ?_
                    (try simp only [Act.put, List.setIfInBounds_toArray, List.set_cons_zero, List.set_cons_succ])
                    refine wpAnyH_take (i := 13) (oi := ({ dst := some 83, op := Op.load 32 (Operand.tmp 82), type := 32, pos := "outright.go:95", after := #[{ on := 12, ground := Ground.data }, { on := 8, ground := Ground.guard }], guard := some (8, true) } : Oper)) (v := undef) rfl (by kernel_rfl) (by kernel_rfl) (by kernel_rfl) (fun _ _ _ h => h) (Or.inr ⟨by rfl, rfl⟩) (by assumption) ?_
                    (try simp only [Act.put, List.setIfInBounds_toArray, List.set_cons_zero, List.set_cons_succ])
                    refine wpAnyH_take (i := 14) (oi := ({ dst := some 84, op := Op.move (Operand.tmp 14), type := 3, pos := "outright.go:95", after := #[{ on := 8, ground := Ground.guard }], guard := some (8, true) } : Oper)) (v := undef) rfl (by kernel_rfl) (by kernel_rfl) (by kernel_rfl) (fun _ _ _ h => h) (Or.inr ⟨by rfl, rfl⟩) (by assumption) ?_
                    (try simp only [Act.put, List.setIfInBounds_toArray, List.set_cons_zero, List.set_cons_succ])
                    refine wpAnyH_take (i := 15) (oi := ({ dst := some 85, op := Op.indexAddr 32 (Operand.tmp 83) (Operand.tmp 84), type := 0, pos := "outright.go:95", after := #[{ on := 13, ground := Ground.data }, { on := 14, ground := Ground.data }, { on := 8, ground := Ground.guard }], guard := some (8, true) } : Oper)) (v := undef) rfl (by kernel_rfl) (by kernel_rfl) (by kernel_rfl) (fun _ _ _ h => h) (Or.inr ⟨by rfl, rfl⟩) (by assumption) ?_
                    (try simp only [Act.put, List.setIfInBounds_toArray, List.set_cons_zero, List.set_cons_succ])
                    refine wpAnyH_take (i := 16) (oi := ({ dst := some 86, op := Op.load 39 (Operand.tmp 85), type := 39, pos := "outright.go:95", after := #[{ on := 15, ground := Ground.data }, { on := 8, ground := Ground.guard }], guard := some (8, true) } : Oper)) (v := undef) rfl (by kernel_rfl) (by kernel_rfl) (by kernel_rfl) (fun _ _ _ h => h) (Or.inr ⟨by rfl, rfl⟩) (by assumption) ?_
                    (try simp only [Act.put, List.setIfInBounds_toArray, List.set_cons_zero, List.set_cons_succ])
                    refine wpAnyH_take (i := 17) (oi := ({ dst := some 87, op := Op.move (Operand.tmp 10), type := 22, pos := "outright.go:95", after := #[{ on := 8, ground := Ground.guard }], guard := some (8, true) } : Oper)) (v := undef) rfl (by kernel_rfl) (by kernel_rfl) (by kernel_rfl) (fun _ _ _ h => h) (Or.inr ⟨by rfl, rfl⟩) (by assumption) ?_
                    (try simp only [Act.put, List.setIfInBounds_toArray, List.set_cons_zero, List.set_cons_succ])
                    refine wpAnyH_take (i := 18) (oi := ({ dst := some 88, op := Op.move (Operand.tmp 13), type := 3, pos := "outright.go:95", after := #[{ on := 8, ground := Ground.guard }], guard := some (8, true) } : Oper)) (v := undef) rfl (by kernel_rfl) (by kernel_rfl) (by kernel_rfl) (fun _ _ _ h => h) (Or.inr ⟨by rfl, rfl⟩) (by assumption) ?_
                    (try simp only [Act.put, List.setIfInBounds_toArray, List.set_cons_zero, List.set_cons_succ])
                    refine wpAnyH_take (i := 19) (oi := ({ dst := some 89, op := Op.indexAddr 22 (Operand.tmp 87) (Operand.tmp 88), type := 0, pos := "outright.go:95", after := #[{ on := 17, ground := Ground.data }, { on := 18, ground := Ground.data }, { on := 8, ground := Ground.guard }], guard := some (8, true) } : Oper)) (v := undef) rfl (by kernel_rfl) (by kernel_rfl) (by kernel_rfl) (fun _ _ _ h => h) (Or.inr ⟨by rfl, rfl⟩) (by assumption) ?_
                    (try simp only [Act.put, List.setIfInBounds_toArray, List.set_cons_zero, List.set_cons_succ])
                    refine wpAnyH_take (i := 20) (oi := ({ dst := some 90, op := Op.load 32 (Operand.tmp 89), type := 32, pos := "outright.go:95", after := #[{ on := 19, ground := Ground.data }, { on := 8, ground := Ground.guard }], guard := some (8, true) } : Oper)) (v := undef) rfl (by kernel_rfl) (by kernel_rfl) (by kernel_rfl) (fun _ _ _ h => h) (Or.inr ⟨by rfl, rfl⟩) (by assumption) ?_
                    (try simp only [Act.put, List.setIfInBounds_toArray, List.set_cons_zero, List.set_cons_succ])
                    refine wpAnyH_take (i := 21) (oi := ({ dst := some 91, op := Op.move (Operand.tmp 16), type := 3, pos := "outright.go:95", after := #[{ on := 8, ground := Ground.guard }], guard := some (8, true) } : Oper)) (v := undef) rfl (by kernel_rfl) (by kernel_rfl) (by kernel_rfl) (fun _ _ _ h => h) (Or.inr ⟨by rfl, rfl⟩) (by assumption) ?_
                    (try simp only [Act.put, List.setIfInBounds_toArray, List.set_cons_zero, List.set_cons_succ])
                    refine wpAnyH_take (i := 22) (oi := ({ dst := some 92, op := Op.indexAddr 32 (Operand.tmp 90) (Operand.tmp 91), type := 0, pos := "outright.go:95", after := #[{ on := 20, ground := Ground.data }, { on := 21, ground := Ground.data }, { on := 8, ground := Ground.guard }], guard := some (8, true) } : Oper)) (v := undef) rfl (by kernel_rfl) (by kernel_rfl) (by kernel_rfl) (fun _ _ _ h => h) (Or.inr ⟨by rfl, rfl⟩) (by assumption) ?_
                    (try simp only [Act.put, List.setIfInBounds_toArray, List.set_cons_zero, List.set_cons_succ])
                    refine wpAnyH_take (i := 23) (oi := ({ dst := some 93, op := Op.load 39 (Operand.tmp 92), type := 39, pos := "outright.go:95", after := #[{ on := 22, ground := Ground.data }, { on := 8, ground := Ground.guard }], guard := some (8, true) } : Oper)) (v := undef) rfl (by kernel_rfl) (by kernel_rfl) (by kernel_rfl) (fun _ _ _ h => h) (Or.inr ⟨by rfl, rfl⟩) (by assumption) ?_
                    (try simp only [Act.put, List.setIfInBounds_toArray, List.set_cons_zero, List.set_cons_succ])
                    refine wpAnyH_take (i := 24) (oi := ({ dst := some 94, op := Op.binOp BinOp.eql 39 (Operand.tmp 86) (Operand.tmp 93) 39, type := 4, pos := "outright.go:95", after := #[{ on := 16, ground := Ground.data }, { on := 23, ground := Ground.data }, { on := 8, ground := Ground.guard }], guard := some (8, true) } : Oper)) (v := undef) rfl (by kernel_rfl) (by kernel_rfl) (by kernel_rfl) (fun _ _ _ h => h) (Or.inr ⟨by rfl, rfl⟩) (by assumption) ?_
                    (try simp only [Act.put, List.setIfInBounds_toArray, List.set_cons_zero, List.set_cons_succ])
                    refine wpAnyH_take (i := 25) (oi := ({ dst := some 95, op := Op.pick (Operand.tmp 78) (Operand.tmp 94) (Operand.const (Value.bool false)), type := 4, pos := "outright.go:95", after := #[{ on := 8, ground := Ground.data }, { on := 24, ground := Ground.data }], guard := none } : Oper)) (v := ?vc25) rfl (by kernel_rfl) (by kernel_rfl) (by kernel_rfl) (fun _ _ _ h => h) (Or.inl ⟨by rfl, fun w hSw => ?hyc25⟩) (by assumption) ?rc25
                    case hyc25 => (try dsimp only at hSw); go_simp; (try with_reducible rfl)
                    (try simp only [Act.put, List.setIfInBounds_toArray, List.set_cons_zero, List.set_cons_succ])
                    refine wpAnyH_take (i := 26) (oi := ({ dst := some 96, op := Op.move (Operand.tmp 95), type := 4, pos := "outright.go:95", after := #[{ on := 25, ground := Ground.data }, { on := 8, ground := Ground.chain }], guard := none } : Oper)) (v := ?vc26) rfl (by kernel_rfl) (by kernel_rfl) (by kernel_rfl) (fun _ _ _ h => h) (Or.inl ⟨by rfl, fun w hSw => ?hyc26⟩) (by assumption) ?rc26
                    case hyc26 => (try dsimp only at hSw); go_simp; (try with_reducible rfl)
                    (try simp only [Act.put, List.setIfInBounds_toArray, List.set_cons_zero, List.set_cons_succ])
                    refine wpAnyH_take (i := 27) (oi := ({ dst := some 97, op := Op.move (Operand.tmp 10), type := 22, pos := "outright.go:95", after := #[{ on := 26, ground := Ground.guard }], guard := some (26, true) } : Oper)) (v := undef) rfl (by kernel_rfl) (by kernel_rfl) (by kernel_rfl) (fun _ _ _ h => h) (Or.inr ⟨by rfl, rfl⟩) (by assumption) ?_
                    (try simp only [Act.put, List.setIfInBounds_toArray, List.set_cons_zero, List.set_cons_succ])
                    refine wpAnyH_take (i := 28) (oi := ({ dst := some 98, op := Op.move (Operand.tmp 13), type := 3, pos := "outright.go:95", after := #[{ on := 26, ground := Ground.guard }], guard := some (26, true) } : Oper)) (v := undef) rfl (by kernel_rfl) (by kernel_rfl) (by kernel_rfl) (fun _ _ _ h => h) (Or.inr ⟨by rfl, rfl⟩) (by assumption) ?_
                    (try simp only [Act.put, List.setIfInBounds_toArray, List.set_cons_zero, List.set_cons_succ])
                    refine wpAnyH_take (i := 29) (oi := ({ dst := some 99, op := Op.indexAddr 22 (Operand.tmp 97) (Operand.tmp 98), type := 0, pos := "outright.go:95", after := #[{ on := 27, ground := Ground.data }, { on := 28, ground := Ground.data }, { on := 26, ground := Ground.guard }], guard := some (26, true) } : Oper)) (v := undef) rfl (by kernel_rfl) (by kernel_rfl) (by kernel_rfl) (fun _ _ _ h => h) (Or.inr ⟨by rfl, rfl⟩) (by assumption) ?_
                    (try simp only [Act.put, List.setIfInBounds_toArray, List.set_cons_zero, List.set_cons_succ])
                    refine wpAnyH_take (i := 30) (oi := ({ dst := some 100, op := Op.load 32 (Operand.tmp 99), type := 32, pos := "outright.go:95", after := #[{ on := 29, ground := Ground.data }, { on := 26, ground := Ground.guard }], guard := some (26, true) } : Oper)) (v := undef) rfl (by kernel_rfl) (by kernel_rfl) (by kernel_rfl) (fun _ _ _ h => h) (Or.inr ⟨by rfl, rfl⟩) (by assumption) ?_
                    (try simp only [Act.put, List.setIfInBounds_toArray, List.set_cons_zero, List.set_cons_succ])
                    refine wpAnyH_take (i := 31) (oi := ({ dst := some 101, op := Op.move (Operand.tmp 16), type := 3, pos := "outright.go:95", after := #[{ on := 26, ground := Ground.guard }], guard := some (26, true) } : Oper)) (v := undef) rfl (by kernel_rfl) (by kernel_rfl) (by kernel_rfl) (fun _ _ _ h => h) (Or.inr ⟨by rfl, rfl⟩) (by assumption) ?_
                    (try simp only [Act.put, List.setIfInBounds_toArray, List.set_cons_zero, List.set_cons_succ])
                    refine wpAnyH_take (i := 32) (oi := ({ dst := some 102, op := Op.indexAddr 32 (Operand.tmp 100) (Operand.tmp 101), type := 0, pos := "outright.go:95", after := #[{ on := 30, ground := Ground.data }, { on := 31, ground := Ground.data }, { on := 26, ground := Ground.guard }], guard := some (26, true) } : Oper)) (v := undef) rfl (by kernel_rfl) (by kernel_rfl) (by kernel_rfl) (fun _ _ _ h => h) (Or.inr ⟨by rfl, rfl⟩) (by assumption) ?_
                    (try simp only [Act.put, List.setIfInBounds_toArray, List.set_cons_zero, List.set_cons_succ])
                    refine wpAnyH_take (i := 33) (oi := ({ dst := some 103, op := Op.fieldAddr 39 (Operand.tmp 102) 1, type := 0, pos := "outright.go:95", after := #[{ on := 32, ground := Ground.data }, { on := 26, ground := Ground.guard }], guard := some (26, true) } : Oper)) (v := undef) rfl (by kernel_rfl) (by kernel_rfl) (by kernel_rfl) (fun _ _ _ h => h) (Or.inr ⟨by rfl, rfl⟩) (by assumption) ?_
                    (try simp only [Act.put, List.setIfInBounds_toArray, List.set_cons_zero, List.set_cons_succ])
                    refine wpAnyH_take (i := 34) (oi := ({ dst := some 104, op := Op.load 36 (Operand.tmp 103), type := 36, pos := "outright.go:95", after := #[{ on := 33, ground := Ground.data }, { on := 26, ground := Ground.guard }], guard := some (26, true) } : Oper)) (v := undef) rfl (by kernel_rfl) (by kernel_rfl) (by kernel_rfl) (fun _ _ _ h => h) (Or.inr ⟨by rfl, rfl⟩) (by assumption) ?_
                    (try simp only [Act.put, List.setIfInBounds_toArray, List.set_cons_zero, List.set_cons_succ])
                    refine wpAnyH_take (i := 35) (oi := ({ dst := some 105, op := Op.move (Operand.tmp 11), type := 3, pos := "outright.go:95", after := #[{ on := 26, ground := Ground.guard }], guard := some (26, true) } : Oper)) (v := undef) rfl (by kernel_rfl) (by kernel_rfl) (by kernel_rfl) (fun _ _ _ h => h) (Or.inr ⟨by rfl, rfl⟩) (by assumption) ?_
                    (try simp only [Act.put, List.setIfInBounds_toArray, List.set_cons_zero, List.set_cons_succ])
                    refine wpAnyH_take (i := 36) (oi := ({ dst := some 106, op := Op.call { callee := Callee.value (Operand.func 16), args := #[Operand.tmp 104, Operand.tmp 105], argTypes := #[36, 3] }, type := 3, pos := "outright.go:95", after := #[{ on := 34, ground := Ground.data }, { on := 35, ground := Ground.data }, { on := 26, ground := Ground.chain }, { on := 26, ground := Ground.guard }], guard := some (26, true) } : Oper)) (v := undef) rfl (by kernel_rfl) (by kernel_rfl) (by kernel_rfl) (fun _ _ _ h => h) (Or.inr ⟨by rfl, rfl⟩) (by assumption) ?_
                    (try simp only [Act.put, List.setIfInBounds_toArray, List.set_cons_zero, List.set_cons_succ])
                    refine wpAnyH_take (i := 37) (oi := ({ dst := some 107, op := Op.move (Operand.tmp 13), type := 3, pos := "outright.go:95", after := #[{ on := 26, ground := Ground.guard }], guard := some (26, true) } : Oper)) (v := undef) rfl (by kernel_rfl) (by kernel_rfl) (by kernel_rfl) (fun _ _ _ h => h) (Or.inr ⟨by rfl, rfl⟩) (by assumption) ?_
                    (try simp only [Act.put, List.setIfInBounds_toArray, List.set_cons_zero, List.set_cons_succ])
                    refine wpAnyH_take (i := 38) (oi := ({ dst := some 108, op := Op.binOp BinOp.mul 3 (Operand.const (Value.int IntKind.i64 2)) (Operand.tmp 107) 3, type := 3, pos := "outright.go:95", after := #[{ on := 37, ground := Ground.data }, { on := 26, ground := Ground.guard }], guard := some (26, true) } : Oper)) (v := undef) rfl (by kernel_rfl) (by kernel_rfl) (by kernel_rfl) (fun _ _ _ h => h) (Or.inr ⟨by rfl, rfl⟩) (by assumption) ?_
                    (try simp only [Act.put, List.setIfInBounds_toArray, List.set_cons_zero, List.set_cons_succ])
                    refine wpAnyH_take (i := 39) (oi := ({ dst := some 109, op := Op.binOp BinOp.eql 3 (Operand.tmp 106) (Operand.tmp 108) 3, type := 4, pos := "outright.go:95", after := #[{ on := 36, ground := Ground.data }, { on := 38, ground := Ground.data }, { on := 26, ground := Ground.guard }], guard := some (26, true) } : Oper)) (v := undef) rfl (by kernel_rfl) (by kernel_rfl) (by kernel_rfl) (fun _ _ _ h => h) (Or.inr ⟨by rfl, rfl⟩) (by assumption) ?_
                    (try simp only [Act.put, List.setIfInBounds_toArray, List.set_cons_zero, List.set_cons_succ])
                    refine wpAnyH_take (i := 40) (oi := ({ dst := some 110, op := Op.pick (Operand.tmp 96) (Operand.tmp 109) (Operand.const (Value.bool false)), type := 4, pos := "outright.go:95", after := #[{ on := 26, ground := Ground.data }, { on := 39, ground := Ground.data }], guard := none } : Oper)) (v := ?vc40) rfl (by kernel_rfl) (by kernel_rfl) (by kernel_rfl) (fun _ _ _ h => h) (Or.inl ⟨by rfl, fun w hSw => ?hyc40⟩) (by assumption) ?rc40
                    case hyc40 => (try dsimp only at hSw); go_simp; (try with_reducible rfl)
                    (try simp only [Act.put, List.setIfInBounds_toArray, List.set_cons_zero, List.set_cons_succ])
                    refine wpAnyH_done (by kernel_rfl) ?_ _
                    clear hHeld
                    have heqd := HEQ.out
                    obtain ⟨g2, o2, hA2, hg2', cg0, cg1, cg2⟩ := HRR.out
                    subst hA2
                    go_upto_region 23 with (fail)
                    refine wp_region_held_drew (S := fun w' => w'.cell? ⟨gd, od + j3, none⟩ = some (.slice (some ⟨g2, o2, none⟩) X1 c2) ∧ (w'.cell? ⟨gc, oc + i, none⟩ = some (.slice (some ⟨g1, o1, none⟩) M c1)) ∧ (w'.cell? ⟨g1, o1 + k * 3, none⟩ = some (.int .i64 d.t) ∧ w'.cell? ⟨g1, o1 + k * 3 + 1, none⟩ = some (.int .u32 (kk : Int)) ∧ w'.cell? ⟨g1, o1 + k * 3 + 2, none⟩ = some (.int .u64 d.z)) ∧ (w'.cell? ⟨g2, o2 + y * 3, none⟩ = some (.int .i64 d.t) ∧ w'.cell? ⟨g2, o2 + y * 3 + 1, none⟩ = some (.int .u32 (kk : Int)) ∧ w'.cell? ⟨g2, o2 + y * 3 + 2, none⟩ = some (.int .u64 d.z))) (by kernel_rfl) ?_ (fun hHeld => ?_)
                    · exact ⟨cd1, cc, ⟨ce0, ce1, ce2⟩, ⟨cg0, cg1, cg2⟩⟩
                    refine wpAnyH_take (i := 0) (oi := ({ dst := some 113, op := Op.move (Operand.tmp 15), type := 3, pos := "outright.go:97", after := #[], guard := none } : Oper)) (v := ?ve0) rfl (by kernel_rfl) (by kernel_rfl) (by kernel_rfl) (fun _ _ _ h => h) (Or.inl ⟨by rfl, fun w hSw => ?hye0⟩) (by assumption) ?re0
                    case hye0 => (try dsimp only at hSw); go_simp; (try with_reducible rfl)
                    (try simp only [Act.put, List.setIfInBounds_toArray, List.set_cons_zero, List.set_cons_succ])
                    refine wpAnyH_take (i := 1) (oi := ({ dst := some 114, op := Op.move (Operand.tmp 12), type := 22, pos := "outright.go:97", after := #[], guard := none } : Oper)) (v := ?ve1) rfl (by kernel_rfl) (by kernel_rfl) (by kernel_rfl) (fun _ _ _ h => h) (Or.inl ⟨by rfl, fun w hSw => ?hye1⟩) (by assumption) ?re1
                    case hye1 => (try dsimp only at hSw); go_simp; (try with_reducible rfl)
                    (try simp only [Act.put, List.setIfInBounds_toArray, List.set_cons_zero, List.set_cons_succ])
                    refine wpAnyH_take (i := 2) (oi := ({ dst := some 115, op := Op.move (Operand.tmp 13), type := 3, pos := "outright.go:97", after := #[], guard := none } : Oper)) (v := ?ve2) rfl (by kernel_rfl) (by kernel_rfl) (by kernel_rfl) (fun _ _ _ h => h) (Or.inl ⟨by rfl, fun w hSw => ?hye2⟩) (by assumption) ?re2
                    case hye2 => (try dsimp only at hSw); go_simp; (try with_reducible rfl)
                    (try simp only [Act.put, List.setIfInBounds_toArray, List.set_cons_zero, List.set_cons_succ])
                    refine wpAnyH_take (i := 3) (oi := ({ dst := some 116, op := Op.binOp BinOp.mul 3 (Operand.const (Value.int IntKind.i64 2)) (Operand.tmp 115) 3, type := 3, pos := "outright.go:97", after := #[{ on := 2, ground := Ground.data }], guard := none } : Oper)) (v := ?ve3) rfl (by kernel_rfl) (by kernel_rfl) (by kernel_rfl) (fun _ _ _ h => h) (Or.inl ⟨by rfl, fun w hSw => ?hye3⟩) (by assumption) ?re3
                    case hye3 => (try dsimp only at hSw); go_simp; (try with_reducible rfl)
                    (try simp only [Act.put, List.setIfInBounds_toArray, List.set_cons_zero, List.set_cons_succ])
                    refine wpAnyH_take (i := 4) (oi := ({ dst := some 117, op := Op.binOp BinOp.add 3 (Operand.tmp 116) (Operand.const (Value.int IntKind.i64 1)) 3, type := 3, pos := "outright.go:97", after := #[{ on := 3, ground := Ground.data }], guard := none } : Oper)) (v := ?ve4) rfl (by kernel_rfl) (by kernel_rfl) (by kernel_rfl) (fun _ _ _ h => h) (Or.inl ⟨by rfl, fun w hSw => ?hye4⟩) (by assumption) ?re4
                    case hye4 => (try dsimp only at hSw); go_simp; (try with_reducible rfl)
                    (try simp only [Act.put, List.setIfInBounds_toArray, List.set_cons_zero, List.set_cons_succ])
                    refine wpAnyH_take (i := 5) (oi := ({ dst := some 118, op := Op.indexAddr 22 (Operand.tmp 114) (Operand.tmp 117), type := 0, pos := "outright.go:97", after := #[{ on := 1, ground := Ground.data }, { on := 4, ground := Ground.data }], guard := none } : Oper)) (v := ?ve5) rfl (by kernel_rfl) (by kernel_rfl) (by kernel_rfl) (fun _ _ _ h => h) (Or.inl ⟨by rfl, fun w hSw => ?hye5⟩) (by assumption) ?re5
                    case hye5 => (try dsimp only at hSw); go_simp; (try with_reducible rfl)
                    (try simp only [Act.put, List.setIfInBounds_toArray, List.set_cons_zero, List.set_cons_succ])
                    refine wpAnyH_take (i := 6) (oi := ({ dst := some 119, op := Op.load 32 (Operand.tmp 118), type := 32, pos := "outright.go:97", after := #[{ on := 5, ground := Ground.data }], guard := none } : Oper)) (v := ?ve6) rfl (by kernel_rfl) (by kernel_rfl) (by kernel_rfl) (fun _ _ _ h => h) (Or.inl ⟨by rfl, fun w hSw => ?hye6⟩) (by assumption) ?re6
                    case hye6 => (try dsimp only at hSw); go_simp; (try with_reducible rfl)
                    (try simp only [Act.put, List.setIfInBounds_toArray, List.set_cons_zero, List.set_cons_succ])
                    refine wpAnyH_take (i := 7) (oi := ({ dst := some 120, op := Op.call { callee := Callee.builtin Builtin.len, args := #[Operand.tmp 119], argTypes := #[32] }, type := 3, pos := "outright.go:97", after := #[{ on := 6, ground := Ground.data }], guard := none } : Oper)) (v := ?ve7) rfl (by kernel_rfl) (by kernel_rfl) (by kernel_rfl) (fun _ _ _ h => h) (Or.inl ⟨by rfl, fun w hSw => ?hye7⟩) (by assumption) ?re7
                    case hye7 => (try dsimp only at hSw); go_simp; (try with_reducible rfl)
                    (try simp only [Act.put, List.setIfInBounds_toArray, List.set_cons_zero, List.set_cons_succ])
                    refine wpAnyH_take (i := 8) (oi := ({ dst := some 121, op := Op.binOp BinOp.lss 3 (Operand.tmp 113) (Operand.tmp 120) 3, type := 4, pos := "outright.go:97", after := #[{ on := 0, ground := Ground.data }, { on := 7, ground := Ground.data }], guard := none } : Oper)) (v := ?ve8) rfl (by kernel_rfl) (by kernel_rfl) (by kernel_rfl) (fun _ _ _ h => h) (Or.inl ⟨by rfl, fun w hSw => ?hye8⟩) (by assumption) ?re8
                    case hye8 => (try dsimp only at hSw); go_simp; (try with_reducible rfl)
                    (try simp only [Act.put, List.setIfInBounds_toArray, List.set_cons_zero, List.set_cons_succ])
                    refine wpAnyH_take (i := 9) (oi := ({ dst := some 122, op := Op.move (Operand.tmp 121), type := 4, pos := "outright.go:97", after := #[{ on := 8, ground := Ground.data }], guard := none } : Oper)) (v := ?ve9) rfl (by kernel_rfl) (by kernel_rfl) (by kernel_rfl) (fun _ _ _ h => h) (Or.inl ⟨by rfl, fun w hSw => ?hye9⟩) (by assumption) ?re9
                    case hye9 => (try dsimp only at hSw); go_simp; (try with_reducible rfl)
                    (try simp only [Act.put, List.setIfInBounds_toArray, List.set_cons_zero, List.set_cons_succ])
                    refine wpAnyH_take (i := 10) (oi := ({ dst := some 123, op := Op.move (Operand.tmp 12), type := 22, pos := "outright.go:97", after := #[{ on := 9, ground := Ground.guard }], guard := some (9, true) } : Oper)) (v := ?ve10) rfl (by kernel_rfl) (by kernel_rfl) (by kernel_rfl) (fun _ _ _ h => h) (Or.inl ⟨by rfl, fun w hSw => ?hye10⟩) (by assumption) ?re10
                    case hye10 => (try dsimp only at hSw); go_simp; (try with_reducible rfl)
                    (try simp only [Act.put, List.setIfInBounds_toArray, List.set_cons_zero, List.set_cons_succ])
                    refine wpAnyH_take (i := 11) (oi := ({ dst := some 124, op := Op.move (Operand.tmp 13), type := 3, pos := "outright.go:97", after := #[{ on := 9, ground := Ground.guard }], guard := some (9, true) } : Oper)) (v := ?ve11) rfl (by kernel_rfl) (by kernel_rfl) (by kernel_rfl) (fun _ _ _ h => h) (Or.inl ⟨by rfl, fun w hSw => ?hye11⟩) (by assumption) ?re11
                    case hye11 => (try dsimp only at hSw); go_simp; (try with_reducible rfl)
                    (try simp only [Act.put, List.setIfInBounds_toArray, List.set_cons_zero, List.set_cons_succ])
                    refine wpAnyH_take (i := 12) (oi := ({ dst := some 125, op := Op.binOp BinOp.mul 3 (Operand.const (Value.int IntKind.i64 2)) (Operand.tmp 124) 3, type := 3, pos := "outright.go:97", after := #[{ on := 11, ground := Ground.data }, { on := 9, ground := Ground.guard }], guard := some (9, true) } : Oper)) (v := ?ve12) rfl (by kernel_rfl) (by kernel_rfl) (by kernel_rfl) (fun _ _ _ h => h) (Or.inl ⟨by rfl, fun w hSw => ?hye12⟩) (by assumption) ?re12
                    case hye12 => (try dsimp only at hSw); go_simp; (try with_reducible rfl)
                    (try simp only [Act.put, List.setIfInBounds_toArray, List.set_cons_zero, List.set_cons_succ])
                    refine wpAnyH_take (i := 13) (oi := ({ dst := some 126, op := Op.binOp BinOp.add 3 (Operand.tmp 125) (Operand.const (Value.int IntKind.i64 1)) 3, type := 3, pos := "outright.go:97", after := #[{ on := 12, ground := Ground.data }, { on := 9, ground := Ground.guard }], guard := some (9, true) } : Oper)) (v := ?ve13) rfl (by kernel_rfl) (by kernel_rfl) (by kernel_rfl) (fun _ _ _ h => h) (Or.inl ⟨by rfl, fun w hSw => ?hye13⟩) (by assumption) ?re13
                    case hye13 => (try dsimp only at hSw); go_simp; (try with_reducible rfl)
                    (try simp only [Act.put, List.setIfInBounds_toArray, List.set_cons_zero, List.set_cons_succ])
                    refine wpAnyH_take (i := 14) (oi := ({ dst := some 127, op := Op.indexAddr 22 (Operand.tmp 123) (Operand.tmp 126), type := 0, pos := "outright.go:97", after := #[{ on := 10, ground := Ground.data }, { on := 13, ground := Ground.data }, { on := 9, ground := Ground.guard }], guard := some (9, true) } : Oper)) (v := ?ve14) rfl (by kernel_rfl) (by kernel_rfl) (by kernel_rfl) (fun _ _ _ h => h) (Or.inl ⟨by rfl, fun w hSw => ?hye14⟩) (by assumption) ?re14
                    case hye14 => (try dsimp only at hSw); go_simp; (try with_reducible rfl)
                    (try simp only [Act.put, List.setIfInBounds_toArray, List.set_cons_zero, List.set_cons_succ])
                    refine wpAnyH_take (i := 15) (oi := ({ dst := some 128, op := Op.load 32 (Operand.tmp 127), type := 32, pos := "outright.go:97", after := #[{ on := 14, ground := Ground.data }, { on := 9, ground := Ground.guard }], guard := some (9, true) } : Oper)) (v := ?ve15) rfl (by kernel_rfl) (by kernel_rfl) (by kernel_rfl) (fun _ _ _ h => h) (Or.inl ⟨by rfl, fun w hSw => ?hye15⟩) (by assumption) ?re15
                    case hye15 => (try dsimp only at hSw); go_simp; (try with_reducible rfl)
                    (try simp only [Act.put, List.setIfInBounds_toArray, List.set_cons_zero, List.set_cons_succ])
                    refine wpAnyH_take (i := 16) (oi := ({ dst := some 129, op := Op.move (Operand.tmp 15), type := 3, pos := "outright.go:97", after := #[{ on := 9, ground := Ground.guard }], guard := some (9, true) } : Oper)) (v := ?ve16) rfl (by kernel_rfl) (by kernel_rfl) (by kernel_rfl) (fun _ _ _ h => h) (Or.inl ⟨by rfl, fun w hSw => ?hye16⟩) (by assumption) ?re16
                    case hye16 => (try dsimp only at hSw); go_simp; (try with_reducible rfl)
                    (try simp only [Act.put, List.setIfInBounds_toArray, List.set_cons_zero, List.set_cons_succ])
                    refine wpAnyH_take (i := 17) (oi := ({ dst := some 130, op := Op.indexAddr 32 (Operand.tmp 128) (Operand.tmp 129), type := 0, pos := "outright.go:97", after := #[{ on := 15, ground := Ground.data }, { on := 16, ground := Ground.data }, { on := 9, ground := Ground.guard }], guard := some (9, true) } : Oper)) (v := ?ve17) rfl (by kernel_rfl) (by kernel_rfl) (by kernel_rfl) (fun _ _ _ h => h) (Or.inl ⟨by rfl, fun w hSw => ?hye17⟩) (by assumption) ?re17
                    case hye17 => (try dsimp only at hSw); go_simp; (try with_reducible rfl)
                    (try simp only [Act.put, List.setIfInBounds_toArray, List.set_cons_zero, List.set_cons_succ])
                    refine wpAnyH_take (i := 18) (oi := ({ dst := some 131, op := Op.load 39 (Operand.tmp 130), type := 39, pos := "outright.go:97", after := #[{ on := 17, ground := Ground.data }, { on := 9, ground := Ground.guard }], guard := some (9, true) } : Oper)) (v := ?ve18) rfl (by kernel_rfl) (by kernel_rfl) (by kernel_rfl) (fun _ _ _ h => h) (Or.inl ⟨by rfl, fun w hSw => ?hye18⟩) (by assumption) ?re18
                    case hye18 => (try dsimp only at hSw); go_simp; (try with_reducible rfl)
                    (try simp only [Act.put, List.setIfInBounds_toArray, List.set_cons_zero, List.set_cons_succ])
                    refine wpAnyH_take (i := 19) (oi := ({ dst := some 132, op := Op.move (Operand.tmp 10), type := 22, pos := "outright.go:97", after := #[{ on := 9, ground := Ground.guard }], guard := some (9, true) } : Oper)) (v := ?ve19) rfl (by kernel_rfl) (by kernel_rfl) (by kernel_rfl) (fun _ _ _ h => h) (Or.inl ⟨by rfl, fun w hSw => ?hye19⟩) (by assumption) ?re19
                    case hye19 => (try dsimp only at hSw); go_simp; (try with_reducible rfl)
                    (try simp only [Act.put, List.setIfInBounds_toArray, List.set_cons_zero, List.set_cons_succ])
                    refine wpAnyH_take (i := 20) (oi := ({ dst := some 133, op := Op.move (Operand.tmp 13), type := 3, pos := "outright.go:97", after := #[{ on := 9, ground := Ground.guard }], guard := some (9, true) } : Oper)) (v := ?ve20) rfl (by kernel_rfl) (by kernel_rfl) (by kernel_rfl) (fun _ _ _ h => h) (Or.inl ⟨by rfl, fun w hSw => ?hye20⟩) (by assumption) ?re20
                    case hye20 => (try dsimp only at hSw); go_simp; (try with_reducible rfl)
                    (try simp only [Act.put, List.setIfInBounds_toArray, List.set_cons_zero, List.set_cons_succ])
                    refine wpAnyH_take (i := 21) (oi := ({ dst := some 134, op := Op.indexAddr 22 (Operand.tmp 132) (Operand.tmp 133), type := 0, pos := "outright.go:97", after := #[{ on := 19, ground := Ground.data }, { on := 20, ground := Ground.data }, { on := 9, ground := Ground.guard }], guard := some (9, true) } : Oper)) (v := ?ve21) rfl (by kernel_rfl) (by kernel_rfl) (by kernel_rfl) (fun _ _ _ h => h) (Or.inl ⟨by rfl, fun w hSw => ?hye21⟩) (by assumption) ?re21
                    case hye21 => (try dsimp only at hSw); go_simp; (try with_reducible rfl)
                    (try simp only [Act.put, List.setIfInBounds_toArray, List.set_cons_zero, List.set_cons_succ])
                    refine wpAnyH_take (i := 22) (oi := ({ dst := some 135, op := Op.load 32 (Operand.tmp 134), type := 32, pos := "outright.go:97", after := #[{ on := 21, ground := Ground.data }, { on := 9, ground := Ground.guard }], guard := some (9, true) } : Oper)) (v := ?ve22) rfl (by kernel_rfl) (by kernel_rfl) (by kernel_rfl) (fun _ _ _ h => h) (Or.inl ⟨by rfl, fun w hSw => ?hye22⟩) (by assumption) ?re22
                    case hye22 => (try dsimp only at hSw); go_simp; (try with_reducible rfl)
                    (try simp only [Act.put, List.setIfInBounds_toArray, List.set_cons_zero, List.set_cons_succ])
                    refine wpAnyH_take (i := 23) (oi := ({ dst := some 136, op := Op.move (Operand.tmp 16), type := 3, pos := "outright.go:97", after := #[{ on := 9, ground := Ground.guard }], guard := some (9, true) } : Oper)) (v := ?ve23) rfl (by kernel_rfl) (by kernel_rfl) (by kernel_rfl) (fun _ _ _ h => h) (Or.inl ⟨by rfl, fun w hSw => ?hye23⟩) (by assumption) ?re23
                    case hye23 => (try dsimp only at hSw); go_simp; (try with_reducible rfl)
                    (try simp only [Act.put, List.setIfInBounds_toArray, List.set_cons_zero, List.set_cons_succ])
                    refine wpAnyH_take (i := 24) (oi := ({ dst := some 137, op := Op.indexAddr 32 (Operand.tmp 135) (Operand.tmp 136), type := 0, pos := "outright.go:97", after := #[{ on := 22, ground := Ground.data }, { on := 23, ground := Ground.data }, { on := 9, ground := Ground.guard }], guard := some (9, true) } : Oper)) (v := ?ve24) rfl (by kernel_rfl) (by kernel_rfl) (by kernel_rfl) (fun _ _ _ h => h) (Or.inl ⟨by rfl, fun w hSw => ?hye24⟩) (by assumption) ?re24
                    case hye24 => (try dsimp only at hSw); go_simp; (try with_reducible rfl)
                    (try simp only [Act.put, List.setIfInBounds_toArray, List.set_cons_zero, List.set_cons_succ])
                    refine wpAnyH_take (i := 25) (oi := ({ dst := some 138, op := Op.load 39 (Operand.tmp 137), type := 39, pos := "outright.go:97", after := #[{ on := 24, ground := Ground.data }, { on := 9, ground := Ground.guard }], guard := some (9, true) } : Oper)) (v := ?ve25) rfl (by kernel_rfl) (by kernel_rfl) (by kernel_rfl) (fun _ _ _ h => h) (Or.inl ⟨by rfl, fun w hSw => ?hye25⟩) (by assumption) ?re25
                    case hye25 => (try dsimp only at hSw); go_simp; (try with_reducible rfl)
                    (try simp only [Act.put, List.setIfInBounds_toArray, List.set_cons_zero, List.set_cons_succ])
                    refine wpAnyH_take (i := 26) (oi := ({ dst := some 139, op := Op.binOp BinOp.eql 39 (Operand.tmp 131) (Operand.tmp 138) 39, type := 4, pos := "outright.go:97", after := #[{ on := 18, ground := Ground.data }, { on := 25, ground := Ground.data }, { on := 9, ground := Ground.guard }], guard := some (9, true) } : Oper)) (v := ?ve26) rfl (by kernel_rfl) (by kernel_rfl) (by kernel_rfl) (fun _ _ _ h => h) (Or.inl ⟨by rfl, fun w hSw => ?hye26⟩) (by assumption) ?re26
                    case hye26 => (try dsimp only at hSw); go_simp; (try with_reducible rfl)
                    (try simp only [Act.put, List.setIfInBounds_toArray, List.set_cons_zero, List.set_cons_succ])
                    refine wpAnyH_take (i := 27) (oi := ({ dst := some 140, op := Op.pick (Operand.tmp 122) (Operand.tmp 139) (Operand.const (Value.bool false)), type := 4, pos := "outright.go:97", after := #[{ on := 9, ground := Ground.data }, { on := 26, ground := Ground.data }], guard := none } : Oper)) (v := ?ve27) rfl (by kernel_rfl) (by kernel_rfl) (by kernel_rfl) (fun _ _ _ h => h) (Or.inl ⟨by rfl, fun w hSw => ?hye27⟩) (by assumption) ?re27
                    case hye27 => (try dsimp only at hSw); go_simp; (try with_reducible rfl)
                    (try simp only [Act.put, List.setIfInBounds_toArray, List.set_cons_zero, List.set_cons_succ])
                    refine wpAnyH_done (by kernel_rfl) ?_ _
                    clear hHeld
                    go_wp2_with fail
                    go_roundg (M - (k + 1))
                    case measure => omega
                    case rel =>
                      have e0 := HS0.out
                      have e1 := HS1.out
                      rw [if_neg HCA.out] at e0
                      rw [if_pos HC3.out] at e1
                      refine ⟨k + 1, by omega, rfl, ?_, ?_, by go_num, HBK.out.drew.drew⟩
                      · rw [e0]; rfl
                      · rw [e1]; go_num
              · obtain rfl : k = M := by omega
                go_wp2_with fail
                go_roundg (z - (i + 1))
                case measure => omega
                case rel => exact ⟨i + 1, by omega, rfl, by go_num, HBI.out.trans (HBK.out.mono HBI.out.size)⟩
          · obtain rfl : i = z := by omega
            go_wp2_with fail
            go_roundg (9 - (p + 1))
            case measure => omega
            case rel =>
              have hb := HB3.out.trans (HBI.out.mono HB3.out.size)
              refine ⟨p + 1, Ad, cd, ssd, by omega, by omega, rfl, by go_num, by rw [HZ2.out], ((HTD.out.new HBI.out).base (by have := HB2.out.size; have := HBX.out.size; omega)), by rw [← HZ2.out]; exact hcd, hcd9, HBX.out.trans (hb.mono HBX.out.size)⟩
      · obtain rfl : p = m0 := by omega
        have hta := (HTA.out.new HBX.out)
        have h3 := on_any HKIT.out HHALF.out p0 p (by omega) (by omega) (by omega) hta (by rw [← HZP.out]; exact hca) hca9 HK.out (by have := HF6.out; omega)
        rw [← HZP.out] at h3
        have H3 := Lib.hid h3
        have hz8 := HNP.out p (by omega) (by omega)
        obtain ⟨z, hz⟩ : ∃ z, z = 2 ^ p := ⟨_, rfl⟩
        have HZ := Lib.hid hz
        rw [← hz] at hz8 hcc ⊢
        clear h3 hz hta
        go_wp2_with fail
        refine H3.out.mono ?_
        clear H3
        rintro e w3 ⟨se, sse, rfl, hte, hb3⟩
        obtain ⟨Ae, ce, rfl, hce, hce9⟩ := hte.shape
        rw [reh_len] at hce hte ⊢
        have HTE := Lib.hid hte; have HB3 := Lib.hid hb3
        have HTC3 := Lib.hid (HTC.out.new hb3)
        have hsz3 : w2.heap.size ≤ w3.heap.size := Nat.le_trans HBX.out.size hb3.size
        have HW3 := Lib.hid (HB2.out.trans ((HBX.out.mono HB2.out.size).trans (hb3.mono (Nat.le_trans HB2.out.size HBX.out.size))))
        clear hte hb3
        rw [← HZ.out] at hce ⊢
        have hzz : ((z : Int) != (z : Int)) = false := by simp
        go_wp2_with fail
        clear hzz
        go_loopg [18] z (fun q s18 wx => ∃ k : Nat, k ≤ z ∧ q = z - k ∧ s18 = .int .i64 (k : Int) ∧ Below w3.heap.size w3 wx)
        case atStart => exact ⟨0, by omega, rfl, rfl, Below.refl _ _⟩
        case round =>
          obtain ⟨k, hk, rfl, rfl, hbk⟩ := hrel
          have HBK := Lib.hid hbk
          clear hbk
          by_cases hkz : k < z
          · have htc := HTC3.out.new HBK.out
            have hte := HTE.out.new HBK.out
            obtain ⟨ge, oe, A1, c1, hAe, cq1, hc1, hc19, hr1⟩ := hte.at (i := k) (by rw [reh_len, ← HZ.out]; exact hkz)
            obtain ⟨gc, oc, A2, c2, hAc, cq2, hc2, hc29, hr2⟩ := htc.at (i := k) (by rw [reh_len, ← HZ.out]; exact hkz)
            subst hAe hAc
            have hl1 : ge < wr.heap.size := (hte.row.lt ge rfl).2
            have hl2 : gc < wr.heap.size := (htc.row.lt gc rfl).2
            rw [reh_at _ _ (by rw [← HZ.out]; exact hkz)] at cq1 hc1 hr1 cq2 hc2 hr2
            have hbl := bk_le (h p) k E
            have hal := fun V (hv : Below wr.heap.size wr V) => alike_any (w := V) c1 c2 (hr1.below hv (Nat.le_refl _)) (hr2.below hv (Nat.le_refl _)) hv.size hv.size (by have := HF6.out; omega)
            have HAL := Lib.hid hal
            obtain ⟨M, hM⟩ : ∃ M, M = (bk (h p) k E).length := ⟨_, rfl⟩
            rw [← hM] at cq1 cq2 HAL
            clear hal hbl hr1 hr2 hM hc1 hc2 hc19 hc29 htc hte
            go_upto_region 33 with (fail)
            refine wp_region_held_drew (S := fun w' => w'.cell? ⟨ge, oe + k, none⟩ = some (.slice A1 M c1) ∧ w'.cell? ⟨gc, oc + k, none⟩ = some (.slice A2 M c2) ∧ Below wr.heap.size wr w') (by kernel_rfl) ?_ (fun hHeld => ?_)
            · exact ⟨cq1, cq2, (Below.refl _ wr).drew⟩
            refine wpAnyH_take (i := 0) (oi := ({ dst := some 158, op := Op.move (Operand.tmp 17), type := 22, pos := "outright.go:111", after := #[], guard := none } : Oper)) (v := ?vz0) rfl (by kernel_rfl) (by kernel_rfl) (by kernel_rfl) (fun _ _ _ h => h) (Or.inl ⟨by rfl, fun w hSw => ?hyz0⟩) (by assumption) ?rz0
            case hyz0 => (try dsimp only at hSw); go_simp; (try with_reducible rfl)
            (try simp only [Act.put, List.setIfInBounds_toArray, List.set_cons_zero, List.set_cons_succ])
            refine wpAnyH_take (i := 1) (oi := ({ dst := some 159, op := Op.move (Operand.tmp 18), type := 3, pos := "outright.go:111", after := #[], guard := none } : Oper)) (v := ?vz1) rfl (by kernel_rfl) (by kernel_rfl) (by kernel_rfl) (fun _ _ _ h => h) (Or.inl ⟨by rfl, fun w hSw => ?hyz1⟩) (by assumption) ?rz1
            case hyz1 => (try dsimp only at hSw); go_simp; (try with_reducible rfl)
            (try simp only [Act.put, List.setIfInBounds_toArray, List.set_cons_zero, List.set_cons_succ])
            refine wpAnyH_take (i := 2) (oi := ({ dst := some 160, op := Op.indexAddr 22 (Operand.tmp 158) (Operand.tmp 159), type := 0, pos := "outright.go:111", after := #[{ on := 0, ground := Ground.data }, { on := 1, ground := Ground.data }], guard := none } : Oper)) (v := ?vz2) rfl (by kernel_rfl) (by kernel_rfl) (by kernel_rfl) (fun _ _ _ h => h) (Or.inl ⟨by rfl, fun w hSw => ?hyz2⟩) (by assumption) ?rz2
            case hyz2 => (try dsimp only at hSw); go_simp; (try with_reducible rfl)
            (try simp only [Act.put, List.setIfInBounds_toArray, List.set_cons_zero, List.set_cons_succ])
            refine wpAnyH_take (i := 3) (oi := ({ dst := some 161, op := Op.load 32 (Operand.tmp 160), type := 32, pos := "outright.go:111", after := #[{ on := 2, ground := Ground.data }], guard := none } : Oper)) (v := ?vz3) rfl (by kernel_rfl) (by kernel_rfl) (by kernel_rfl) (fun _ _ _ h => h) (Or.inl ⟨by rfl, fun w hSw => ?hyz3⟩) (by assumption) ?rz3
            case hyz3 => (try dsimp only at hSw); go_simp; (try with_reducible rfl)
            (try simp only [Act.put, List.setIfInBounds_toArray, List.set_cons_zero, List.set_cons_succ])
            refine wpAnyH_take (i := 4) (oi := ({ dst := some 162, op := Op.move (Operand.tmp 10), type := 22, pos := "outright.go:111", after := #[], guard := none } : Oper)) (v := ?vz4) rfl (by kernel_rfl) (by kernel_rfl) (by kernel_rfl) (fun _ _ _ h => h) (Or.inl ⟨by rfl, fun w hSw => ?hyz4⟩) (by assumption) ?rz4
            case hyz4 => (try dsimp only at hSw); go_simp; (try with_reducible rfl)
            (try simp only [Act.put, List.setIfInBounds_toArray, List.set_cons_zero, List.set_cons_succ])
            refine wpAnyH_take (i := 5) (oi := ({ dst := some 163, op := Op.move (Operand.tmp 18), type := 3, pos := "outright.go:111", after := #[], guard := none } : Oper)) (v := ?vz5) rfl (by kernel_rfl) (by kernel_rfl) (by kernel_rfl) (fun _ _ _ h => h) (Or.inl ⟨by rfl, fun w hSw => ?hyz5⟩) (by assumption) ?rz5
            case hyz5 => (try dsimp only at hSw); go_simp; (try with_reducible rfl)
            (try simp only [Act.put, List.setIfInBounds_toArray, List.set_cons_zero, List.set_cons_succ])
            refine wpAnyH_take (i := 6) (oi := ({ dst := some 164, op := Op.indexAddr 22 (Operand.tmp 162) (Operand.tmp 163), type := 0, pos := "outright.go:111", after := #[{ on := 4, ground := Ground.data }, { on := 5, ground := Ground.data }], guard := none } : Oper)) (v := ?vz6) rfl (by kernel_rfl) (by kernel_rfl) (by kernel_rfl) (fun _ _ _ h => h) (Or.inl ⟨by rfl, fun w hSw => ?hyz6⟩) (by assumption) ?rz6
            case hyz6 => (try dsimp only at hSw); go_simp; (try with_reducible rfl)
            (try simp only [Act.put, List.setIfInBounds_toArray, List.set_cons_zero, List.set_cons_succ])
            refine wpAnyH_take (i := 7) (oi := ({ dst := some 165, op := Op.load 32 (Operand.tmp 164), type := 32, pos := "outright.go:111", after := #[{ on := 6, ground := Ground.data }], guard := none } : Oper)) (v := ?vz7) rfl (by kernel_rfl) (by kernel_rfl) (by kernel_rfl) (fun _ _ _ h => h) (Or.inl ⟨by rfl, fun w hSw => ?hyz7⟩) (by assumption) ?rz7
            case hyz7 => (try dsimp only at hSw); go_simp; (try with_reducible rfl)
            (try simp only [Act.put, List.setIfInBounds_toArray, List.set_cons_zero, List.set_cons_succ])
            refine wpAnyH_ready (rs := [8]) (by kernel_rfl) (by simp) ?_
            refine AllReadyH.cons (o := ({ dst := some 166, op := Op.call { callee := Callee.value (Operand.func 17), args := #[Operand.tmp 161, Operand.tmp 165], argTypes := #[32, 32] }, type := 4, pos := "outright.go:111", after := #[{ on := 3, ground := Ground.data }, { on := 7, ground := Ground.data }], guard := none } : Oper)) rfl (fun Kq hKq => ?_) AllReadyH.nil
            go_simp
            (refine (HAL.out _ hHeld.2.2).mono ?_; rintro e w1 ⟨rfl, hb1⟩)
            refine hKq.out _ _ ?_ (fun hHeld => ?_)
            · exact ⟨(hb1.cell (p := ⟨ge, oe + k, none⟩) (by have := hHeld.2.2.size; exact Nat.lt_of_lt_of_le hl1 this)).trans hHeld.1, (hb1.cell (p := ⟨gc, oc + k, none⟩) (by have := hHeld.2.2.size; exact Nat.lt_of_lt_of_le hl2 this)).trans hHeld.2.1, hHeld.2.2.trans (hb1.mono hHeld.2.2.size)⟩
            clear hKq Kq
            (try simp only [Act.put, List.setIfInBounds_toArray, List.set_cons_zero, List.set_cons_succ])
            refine wpAnyH_take (i := 9) (oi := ({ dst := some 167, op := Op.unOp UnOp.not 4 (Operand.tmp 166), type := 4, pos := "outright.go:111", after := #[{ on := 8, ground := Ground.data }], guard := none } : Oper)) (v := ?vz9) rfl (by kernel_rfl) (by kernel_rfl) (by kernel_rfl) (fun _ _ _ h => h) (Or.inl ⟨by rfl, fun w hSw => ?hyz9⟩) (by assumption) ?rz9
            case hyz9 => (try dsimp only at hSw); go_simp; (try with_reducible rfl)
            (try simp only [Act.put, List.setIfInBounds_toArray, List.set_cons_zero, List.set_cons_succ])
            refine wpAnyH_done (by kernel_rfl) ?_ _
            have HH := Lib.hid hHeld.2.2
            clear hHeld
            go_wp2_with fail
            go_roundg (z - (k + 1))
            case measure => omega
            case rel => exact ⟨k + 1, by omega, rfl, by go_num, HBK.out.trans (HH.out.mono HBK.out.size)⟩
          · obtain rfl : k = z := by omega
            go_wp2_with fail
            refine (lives_any wr).mono ?_
            rintro e w7 ⟨rfl, hb7⟩
            have HB7 := Lib.hid hb7
            clear hb7
            go_wp2_with fail
            go_ret
            have hb := HW3.out.trans (HBK.out.mono HW3.out.size)
            exact ⟨rfl, hb.trans (HB7.out.mono hb.size)⟩
end Go.Proofs.Ytjblpdnhkoemjaa
