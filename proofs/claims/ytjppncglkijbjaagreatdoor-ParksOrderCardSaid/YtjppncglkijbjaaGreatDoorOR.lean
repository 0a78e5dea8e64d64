/- ParksOrder's walk. -/
import Derived.Test.YtjppncglkijbjaaGreatDoorOX
import Derived.LoopTactic
import Derived.Deep.LoopGhost
set_option linter.unusedVariables false
set_option linter.unusedSimpArgs false
namespace Go.Proofs.YtjppncglkijbjaaGreatDoor.S19
open Go.Proofs.YtjppncglkijbjaaGreatDoor Go.Proofs.YtjppncglkijbjaaGreatDoor.S11 Go.Proofs.YtjppncglkijbjaaGreatDoor.S12 Go.Proofs.YtjppncglkijbjaaGreatDoor.S13 Go.Proofs.YtjppncglkijbjaaGreatDoor.S14 Go.Proofs.YtjppncglkijbjaaGreatDoor.S15 Go.Proofs.YtjppncglkijbjaaGreatDoor.S16 Go.Proofs.YtjppncglkijbjaaGreatDoor.S18
open Go.RowKit

/-- What stands beside ParksOrder's world: the order, the Parks, who stays, a deadline. -/
abbrev hP (s6 s7 s8 : Value) (late : Nat) (O Bs : List Nat) (up : Part) : List Part := [intsP s6 O.length (O.map iVn), intsP s7 O.length (ptrs Bs), intsP s8 (lefts late O).length ((lefts late O).map iVn), up]
theorem lb_bits (late m : Nat) (h : late < 18446744073709551616) : (bits BinOp.and IntKind.u64 ((late : Int) / 2 ^ m) 1 == 1) = lb late m := by
  have e : ((late : Int) / 2 ^ m) = ((late / 2 ^ m : Nat) : Int) := by simp
  have h1 := S1.and_pow (late / 2 ^ m) 0 (Nat.lt_of_le_of_lt (Nat.div_le_self _ _) h) (by decide)
  have h2 : bits BinOp.and IntKind.u64 ((late / 2 ^ m : Nat) : Int) 1 = ((late / 2 ^ m % 2 : Nat) : Int) := by
    rw [show ((2 ^ 0 : Nat) : Int) = 1 from rfl, Nat.pow_zero, Nat.div_one, Nat.mul_one] at h1
    exact h1
  rw [e, h2]
  unfold lb
  rcases Nat.mod_two_eq_zero_or_one (late / 2 ^ m) with h3 | h3 <;> rw [h3] <;> rfl
section
variable {w0 w w' : World} {base WB : Nat} {M : Sd}
set_option maxRecDepth 100000 in
set_option maxHeartbeats 40000000 in
theorem law_order {A : Option Addr} {c late : Nat} {bs : List Nat} (w : World) (hT : Tab w) (hb0 : 0 < w.heap.size) (hin : ∀ i, i < bs.length → ∃ g o, A = some ⟨g, o, none⟩ ∧ g < w.heap.size ∧ w.cell? ⟨g, o + i, none⟩ = some (.int .u8 (bs[i]! : Int))) (h256 : ∀ i, i < bs.length → bs[i]! < 256) (hlate : late < 18446744073709551616) :
    Calls Tryz.prog 3 #[.slice A bs.length c, .int .u64 (late : Int)] w fun e w' => e = .returned (.bool true) ∧ Below w.heap.size w w' := by
  have HW := Lib.hid (fun W => world_any 0 (by omega) W)
  have HLV : Hid (∀ W, Below w.heap.size w W → Calls Tryz.prog 9 #[] W fun e w' => e = .returned (.bool true) ∧ Below W.heap.size W w') := Lib.hid (fun W hW => lives18 W (hT.below hW hb0) (Nat.lt_of_lt_of_le hb0 hW.size))
  have HT := Lib.hid (And.intro hT (And.intro hb0 hlate)); have HIN := Lib.hid hin; have H256 := Lib.hid h256
  obtain ⟨n, hnn⟩ : ∃ n, n = bs.length := ⟨_, rfl⟩
  rw [← hnn] at HIN H256 ⊢
  obtain ⟨a, haa⟩ : ∃ a, a = lokN 1024 2 := ⟨_, rfl⟩
  obtain ⟨pi, hpi⟩ : ∃ pi, pi = bktN 1024 2 := ⟨_, rfl⟩
  have HWK : Hid (Wk (sdN 0 5) a pi [] 0 0) := Lib.hid ⟨sdN_pl (k := 1024) haa hpi, rfl, Nat.le_refl _, Nat.le_refl _, Nat.le_refl _⟩
  clear hT hb0 hin h256 hlate hnn haa hpi
  go_enter Tryz.func3, Tryz.ntmps3
  go_upto_region 2 with (go_at_call 8; refine (HW.out _).mono ?_; rintro e w1 ⟨X, rfl, hp, h0, hb1⟩; have HX := Lib.hid (And.intro hp (And.intro h0 hb1)); clear hp h0 hb1)
  by_cases h40 : 40 < n
  · have d1 : decide ((40 : Int) < (n : Int)) = true := decide_eq_true (by omega)
    have d2 : decide (40 < n) = true := decide_eq_true h40
    go_wp2_with (go_at_call 9; refine (HLV.out _ HX.out.2.2).mono ?_; rintro e w2 ⟨rfl, hb2⟩; have HB2 := Lib.hid (HX.out.2.2.trans (hb2.mono HX.out.2.2.size)); clear hb2)
    go_ret
    exact ⟨rfl, HB2.out⟩
  have d1 : decide ((40 : Int) < (n : Int)) = false := decide_eq_false (by omega)
  have d2 : decide (40 < n) = false := decide_eq_false h40
  have hpg := pg_of HX.out.1 HX.out.2.2
  rw [at0_sd HX.out.2.1] at hpg
  obtain ⟨WB, hWB⟩ : ∃ WB, WB = X.wB := ⟨_, rfl⟩
  rw [← hWB] at hpg
  rw [← hWB]
  have h1 := ((((AllS.first hpg).addH (intsP (.slice none 0 0) 0 []) (Below.refl _ _) (S10.row_nil _ _ _) (fun k e => by cases e)).addH (intsP (.slice none 0 0) 0 []) (Below.refl _ _) (S10.row_nil _ _ _) (fun k e => by cases e)).addH (intsP (.slice none 0 0) 0 []) (Below.refl _ _) (S10.row_nil _ _ _) (fun k e => by cases e)).addH noP (Below.refl _ _) trivial (fun k e => e.elim)
  have H1 : Hid (AllS w w1 w.heap.size WB (sdN 0 5) (hP (.slice none 0 0) (.slice none 0 0) (.slice none 0 0) late [] [] noP) []) := Lib.hid h1
  have HN40 := Lib.hid h40
  clear h1 hpg hWB HX HW h40
  go_upto_region 7 with fail
  clear d1 d2
  go_wp2_with fail
  go_loopg [6, 7, 8, 9, 10, 11, 12, 13, 14] n (fun q s6 s7 s8 s9 s10 s11 s12 s13 s14 wx => ∃ (i : Nat) (M : Sd) (O : List Nat) (Bs : List Nat) (L : List Rows) (up : Part), i ≤ n ∧ q = n - i ∧ s9 = .int .i64 (i : Int) ∧ AllS w wx w.heap.size WB M (hP s6 s7 s8 late O Bs up) L ∧ SlpO late O pi L Bs ∧ Wk M a pi (O.map eN) 0 (10 * i) ∧ Ord M O 0 ∧ O.length ≤ i)
  case atStart => exact ⟨0, sdN 0 5, [], [], [], noP, by omega, by omega, rfl, H1.out, ⟨rfl, rfl, fun i hi => absurd hi (by simp)⟩, HWK.out, ⟨List.nodup_nil, fun t ht => absurd ht List.not_mem_nil, fun j _ hj => absurd hj (Nat.not_lt_zero _), fun j hj => absurd hj (Nat.not_lt_zero _)⟩, by simp⟩
  case round =>
    obtain ⟨i, M, O, Bs, L, up, hi, rfl, rfl, ha, hs, hw, ho, hoi⟩ := hrel
    have HA := Lib.hid ha; have HS := Lib.hid hs; have HWK := Lib.hid hw; have HO := Lib.hid ho; have HI := Lib.hid (And.intro hi hoi)
    clear ha hs hw ho hoi
    by_cases hin : i < n
    · have d1 : decide ((i : Int) < (n : Int)) = true := decide_eq_true (by omega)
      have d2 : decide (i < n) = true := decide_eq_true hin
      obtain ⟨g, og, rfl, hg, hc0⟩ := HIN.out i hin
      obtain ⟨b, hbb⟩ : ∃ b, b = bs[i]! := ⟨_, rfl⟩
      have hb256 := H256.out i hin
      rw [← hbb] at hc0 hb256
      have hc : wr.cell? ⟨g, og + i, none⟩ = some (.int .u8 (b : Int)) := (HA.out.bl.cell (p := ⟨g, og + i, none⟩) hg).trans hc0
      obtain ⟨t, htt⟩ : ∃ t, t = b % 64 := ⟨_, rfl⟩
      have ht64 : t < 64 := by omega
      have x1 : (b : Int).tmod 64 = (t : Int) := by rw [Int.tmod_eq_emod_of_nonneg (by omega)]; omega
      have x1' : (b : Int) % 64 = (t : Int) := by omega
      have x2 : IntKind.u8.wrap (t : Int) = (t : Int) := by rw [IntKind.wrap_u8]; omega
      have x3 : IntKind.i64.wrap (t : Int) = (t : Int) := by rw [IntKind.wrap_i64]; omega
      have x4 : wrap64 (t : Int) = (t : Int) := by unfold wrap64; omega
      have HTT := Lib.hid (And.intro ht64 hin)
      have HCC := Lib.hid hc0
      clear hbb hc0 hb256 htt ht64
      go_upto_region 12 with fail
      clear d1 d2 hc x1 x1' x2 x3 x4 hin
      obtain ⟨wo, rfl⟩ : ∃ wo : World, wo = wr := ⟨_, rfl⟩
      obtain ⟨m, hm⟩ : ∃ m, m = O.length := ⟨_, rfl⟩
      have hrow := HA.out.partH (a := 0) rfl
      have HROW : Hid (S10.Row wo 0 1 u6 m (O.map iVn)) := Lib.hid (by rw [hm]; exact hrow)
      obtain ⟨A6, c6, hs6, h6c, h6m⟩ := HROW.out.shape
      subst hs6
      have HM := Lib.hid hm
      clear hrow hm
      go_wp2_with fail
      go_loopg [11, 12] m (fun q s11 s12 wy => ∃ k : Nat, k ≤ m ∧ q = m - k ∧ s12 = .int .i64 (k : Int) ∧ s11 = .bool (decide (t ∈ O.take k)) ∧ wo = wy)
      case atStart => exact ⟨0, by omega, by omega, rfl, by simp, rfl⟩
      case round =>
        obtain ⟨k, hk, rfl, rfl, rfl, rfl⟩ := hrel
        by_cases hkm : k < m
        · have d1 : decide ((k : Int) < (m : Int)) = true := decide_eq_true (by omega)
          have d2 : decide (k < m) = true := decide_eq_true hkm
          have hko : k < O.length := by have := HM.out; omega
          obtain ⟨g6, o6, cap6, e6, _, _, c6k⟩ := row_at HROW.out (k := k) (v := iVn O[k]!) (by rw [List.getElem?_map, List.getElem?_eq_getElem hko, getElem!_pos O k hko]; rfl)
          have HNX : Hid (decide (t ∈ O.take (k + 1)) = (decide (t ∈ O.take k) || decide (O[k]! = t))) := Lib.hid (by
            rw [List.take_succ_eq_append_getElem hko, getElem!_pos O k hko]
            refine Bool.eq_iff_iff.2 ?_
            rw [decide_eq_true_iff, List.mem_append, List.mem_singleton, Bool.or_eq_true, decide_eq_true_iff, decide_eq_true_iff]
            exact ⟨fun h => h.imp id Eq.symm, fun h => h.imp id Eq.symm⟩)
          obtain ⟨hd, hhd⟩ : ∃ hd, hd = decide (t ∈ O.take k) := ⟨_, rfl⟩
          rw [← hhd] at HNX ⊢
          obtain ⟨tk, htk⟩ : ∃ tk, tk = O[k]! := ⟨_, rfl⟩
          rw [← htk] at HNX c6k
          have c6k' : wo.cell? ⟨g6, o6 + k, none⟩ = some (.int .i64 (tk : Int)) := c6k
          injection e6 with e6a e6b e6c
          subst e6a e6c
          have HKM := Lib.hid hkm
          clear hhd htk c6k hko hkm hk
          cases hd
          · go_wp2_with fail
            go_roundg (m - (k + 1))
            case measure => have := HKM.out; omega
            case rel => have h9 := HKM.out; exact ⟨k + 1, HKM.out, by omega, congrArg (Value.int .i64) (by first | omega | (unfold wrap64; omega)), by rw [HNX.out]; first | rfl | (rw [Bool.false_or]; first | rfl | exact congrArg Value.bool (decN tk t)), rfl⟩
          · go_wp2_with fail
            go_roundg (m - (k + 1))
            case measure => have := HKM.out; omega
            case rel => have h9 := HKM.out; exact ⟨k + 1, HKM.out, by omega, congrArg (Value.int .i64) (by first | omega | (unfold wrap64; omega)), by rw [HNX.out]; rfl, rfl⟩
        · obtain rfl : m = k := by omega
          have d1 : decide ((m : Int) < (m : Int)) = false := decide_eq_false (by omega)
          have d2 : decide (m < m) = false := decide_eq_false (by omega)
          have HMEM : Hid (decide (t ∈ O.take m) = decide (t ∈ O)) := Lib.hid (by rw [HM.out, List.take_length])
          rw [HMEM.out]
          by_cases hmem : t ∈ O
          · rw [decide_eq_true hmem]
            go_wp2_with fail
            go_roundg (n - (i + 1))
            case measure => have := HTT.out.2; omega
            case rel => have h9 := HTT.out.2; have h8 := HN40.out; exact ⟨i + 1, M, O, Bs, L, up, HTT.out.2, by omega, congrArg (Value.int .i64) (by first | omega | (unfold wrap64; omega)), HA.out, HS.out, HWK.out.mono (by omega), HO.out, by have := HI.out.2; omega⟩
          rw [decide_eq_false hmem]
          have HNM := Lib.hid hmem
          have HMO := Lib.hid HM.out
          clear d1 d2 hmem HMEM
          have hm40 : m ≤ 40 := by have := HI.out.2; have := HM.out; have := HN40.out; omega
          have s1 : IntKind.u64.wrap (m : Int) = (m : Int) := by rw [IntKind.wrap_u64]; omega
          have s2 : ((m : Int)).toNat = m := Int.toNat_natCast m
          have s3 : min m 64 = m := by omega
          have HLB := Lib.hid (lb_int late m)
          go_upto_region 18 with fail
          clear s1 s2 s3
          rw [lb_bits late m HT.out.2.2]
          have h1 := HA.out.setB (a := 3) rfl (.cells #[.bool (lb late m), .int .u64 5] 31)
          obtain ⟨UB, hUB⟩ : ∃ UB, UB = wo.heap.size := ⟨_, rfl⟩
          rw [← hUB] at h1 ⊢
          obtain ⟨up1, hup1⟩ : ∃ up1, up1 = rowsP [(UB, .cells #[.bool (lb late m), .int .u64 5] 31)] := ⟨_, rfl⟩
          have HA1 : Hid (AllS w _ w.heap.size WB M (hP (.slice A6 m c6) u7 u8 late O Bs up1) L) := Lib.hid (by rw [hup1]; exact h1)
          have HUP := Lib.hid hup1
          clear h1 hUB hup1 hm40
          generalize wo.alloc (.cells #[.bool (lb late m), .int .u64 5] 31) = w2 at *
          have HUC : Hid (∀ W M' s6 s7 s8 O' Bs' L', AllS w W w.heap.size WB M' (hP s6 s7 s8 late O' Bs' up1) L' → W.heap[UB]? = some (.cells #[.bool (lb late m), .int .u64 5] 31)) := Lib.hid (fun W M' s6 s7 s8 O' Bs' L' h => by
            have hp := h.partH (a := 3) rfl
            rw [HUP.out] at hp
            exact hp.1 (UB, _) List.mem_cons_self)
          have u0 := cell_row (HUC.out _ _ _ _ _ _ _ _ HA1.out) 0
          have u1 := cell_row (HUC.out _ _ _ _ _ _ _ _ HA1.out) 1
          have eD : oD late (O ++ [t]) m = ⟨t, 1024, 0, lb late m, 5, none⟩ := by
            unfold oD
            rw [HM.out, getElem!_pos (O ++ [t]) O.length (by simp)]
            simp
          have HD := Lib.hid eD
          have hnew := HA1.out.newpark (v := .nilIface) (D := oD late (O ++ [t]) m) (.inr ⟨by rfl, by rfl⟩) (by rfl) (by rw [eD]; exact HTT.out.1) (by rw [eD]; show 1024 < 4294967296; omega)
          rw [eD] at hnew
          have HNEW : Hid (Calls Tryz.prog 10 #[.int .i64 (t : Int), .int .u32 1024, .int .u64 0, .agg #[.bool (lb late m), .int .u64 5], .nilIface] w2 _) := Lib.hid hnew
          clear hnew eD
          have HON : Hid (lb late O.length = lb late m) := Lib.hid (by rw [HM.out])
          generalize lb late m = on at *
          go_upto_region 19 with (go_at_call 10; refine HNEW.out.mono ?_; rintro e w3 ⟨B, rfl, h3⟩; have H3 := Lib.hid h3; clear h3)
          clear HNEW u0 u1
          have hsl := sleep_k (D := ⟨t, 1024, 0, on, 5, none⟩) HT.out.1 HT.out.2.1 HWK.out (by have := HTT.out.2; have := HN40.out; omega) (by rw [List.length_map]; have := HI.out.2; have := HN40.out; omega) HTT.out.1 rfl rfl (fun _ => by show ¬ 5 ≤ 0; omega) H3.out
          have HSL : Hid (Calls Tryz.prog 11 #[Pw WB, Pw B, .int .i64 (t : Int)] w3 _) := Lib.hid hsl
          clear hsl
          go_upto_region 21 with (go_at_call 11; refine HSL.out.mono ?_; rintro e w4 ⟨rfl, M4, l4, E4, F4, h4, hsl4, hw4, hp4, hpf4, hlk4⟩; have H4 := Lib.hid h4; have HL4 := Lib.hid hsl4; have HW4 := Lib.hid hw4; have HP4 := Lib.hid (And.intro hp4 (And.intro hpf4 hlk4)); clear h4 hsl4 hw4 hp4 hpf4 hlk4)
          clear HSL
          have hr0 : S10.Row w4 0 1 (.slice A6 m c6) m (O.map iVn) := by have := H4.out.partH (a := 0) rfl; rw [← HM.out] at this; exact this
          go_upto_region 22 with (at_builtin; refine S10.wpList_append_row layI rfl _ _ rfl rfl (hr0.alloc _) (fun u hu => by obtain ⟨x, _, rfl⟩ := List.mem_map.1 hu; rfl) (Nat.zero_le _) 1 rfl (S10.rd_one1 w4 (.int .i64 (t : Int)) 3) rfl (fun u hu => by rw [List.mem_singleton] at hu; rw [hu]; rfl) (by have := HI.out.2; have := HM.out; have := HN40.out; omega) ?_; intro v6 w5 hr5 ht5 ho5; have H5 := Lib.hid (H4.out.app (a := 0) rfl (below1 w4 _) hr5 ht5 ho5); clear hr5 ht5 ho5)
          have hr1 : S10.Row w5 0 1 u7 m (ptrs Bs) := by have := H5.out.partH (a := 1) rfl; rw [← HM.out] at this; exact this
          go_upto_region 23 with (at_builtin; refine S10.wpList_append_row layP rfl _ _ rfl rfl (hr1.alloc _) (fun u hu => by obtain ⟨x, _, rfl⟩ := List.mem_map.1 hu; rfl) (Nat.zero_le _) 1 rfl (S10.rd_one1 w5 (Pw B) 32) rfl (fun u hu => by rw [List.mem_singleton] at hu; rw [hu]; rfl) (by have := HI.out.2; have := HM.out; have := HN40.out; omega) ?_; intro v7 w6 hr6 ht6 ho6; have H6 := Lib.hid (H5.out.app (a := 1) rfl (below1 w5 _) hr6 ht6 ho6); clear hr6 ht6 ho6)
          clear hr0 hr1
          have u0 := cell_row (show w6.heap[UB]? = some (.cells #[.bool on, .int .u64 5] 31) from by
            have hp := H6.out.partH (a := 3) rfl
            rw [HUP.out] at hp
            exact hp.1 (UB, _) List.mem_cons_self) 0
          have e1 : (O ++ [t]).length = m + 1 := by rw [List.length_append, HM.out]; rfl
          have e2 : (O ++ [t]).map iVn = O.map iVn ++ [.int .i64 (t : Int)] := by rw [List.map_append]; rfl
          have e3 : ptrs (Bs ++ [B]) = ptrs Bs ++ [Pw B] := by unfold ptrs; rw [List.map_append]; rfl
          have e4 : (O ++ [t]).map eN = O.map eN ++ [entD ⟨t, 1024, 0, on, 5, none⟩] := by rw [List.map_append]; rfl
          have HE := Lib.hid (And.intro e1 (And.intro e2 e3))
          have HSN : Hid (SlpO late (O ++ [t]) pi (L ++ [l4]) (Bs ++ [B])) := Lib.hid (HS.out.next (E := E4) (F := F4) (by rw [← HM.out, HD.out]; exact HL4.out))
          have HWN : Hid (Wk M4 a pi ((O ++ [t]).map eN) 0 (10 * (i + 1))) := Lib.hid (by rw [e4]; exact HW4.out.mono (by omega))
          have HOO : Hid (Ord M4 (O ++ [t]) 0) := Lib.hid (HO.out.next HNM.out HTT.out.1 HP4.out.1 HP4.out.2.1 HP4.out.2.2)
          clear e1 e2 e3 e4
          cases on
          · have hr2 : S10.Row w6 0 1 u8 (lefts late O).length ((lefts late O).map iVn) := H6.out.partH (a := 2) rfl
            have HLE : Hid (lefts late (O ++ [t]) = lefts late O ++ [t]) := Lib.hid (by rw [lefts_snoc, HON.out, if_neg (by decide)])
            obtain ⟨A8, c8, hs8, h8c, h8m⟩ := hr2.shape
            subst hs8
            have HLL : Hid ((lefts late O).length ≤ 40) := Lib.hid (by have := lefts_len late O; have := HI.out.2; have := HN40.out; omega)
            obtain ⟨ll, hll⟩ : ∃ ll, ll = (lefts late O).length := ⟨_, rfl⟩
            rw [← hll] at hr2 HLL h8c H6 ⊢
            have HLX := Lib.hid hll
            clear hll
            go_upto_region 24 with fail
            clear u0
            go_wp2_with (at_builtin; refine S10.wpList_append_row layI rfl _ _ rfl rfl (hr2.alloc _) (fun u hu => by obtain ⟨x, _, rfl⟩ := List.mem_map.1 hu; rfl) (Nat.zero_le _) 1 rfl (S10.rd_one1 w6 (.int .i64 (t : Int)) 3) rfl (fun u hu => by rw [List.mem_singleton] at hu; rw [hu]; rfl) (by have := HLL.out; omega) ?_; intro v8 w7 hr7 ht7 ho7; have H7 := Lib.hid (H6.out.app (a := 2) rfl (below1 w6 _) hr7 ht7 ho7); clear hr7 ht7 ho7)
            go_roundg (n - (i + 1))
            case measure => have := HTT.out.2; omega
            case rel =>
              have h9 := HTT.out.2
              have h8 := HN40.out
              refine ⟨i + 1, M4, O ++ [t], Bs ++ [B], L ++ [l4], up1, h9, by omega, congrArg (Value.int .i64) (by first | omega | (unfold wrap64; omega)), ?_, HSN.out, HWN.out, HOO.out, by rw [List.length_append]; have := HI.out.2; show O.length + 1 ≤ i + 1; omega⟩
              unfold hP
              rw [HE.out.1, HE.out.2.1, HE.out.2.2, HLE.out, List.length_append, List.map_append, ← HLX.out]
              exact H7.out
          · have HLE : Hid (lefts late (O ++ [t]) = lefts late O) := Lib.hid (by rw [lefts_snoc, HON.out, if_pos rfl])
            go_wp2_with fail
            go_roundg (n - (i + 1))
            case measure => have := HTT.out.2; omega
            case rel =>
              have h9 := HTT.out.2
              have h8 := HN40.out
              refine ⟨i + 1, M4, O ++ [t], Bs ++ [B], L ++ [l4], up1, h9, by omega, congrArg (Value.int .i64) (by first | omega | (unfold wrap64; omega)), ?_, HSN.out, HWN.out, HOO.out, by rw [List.length_append]; have := HI.out.2; show O.length + 1 ≤ i + 1; omega⟩
              unfold hP
              rw [HE.out.1, HE.out.2.1, HE.out.2.2, HLE.out]
              exact H6.out
    · obtain rfl : i = n := by have := HI.out.1; omega
      have d1 : decide ((i : Int) < (i : Int)) = false := decide_eq_false (by omega)
      have d2 : decide (i < i) = false := decide_eq_false (by omega)
      obtain ⟨m, hm⟩ : ∃ m, m = O.length := ⟨_, rfl⟩
      have hr0 := HA.out.partH (a := 0) rfl
      have HR0 : Hid (S10.Row wr 0 1 u6 m (O.map iVn)) := Lib.hid (by rw [hm]; exact hr0)
      clear hr0
      obtain ⟨A6, c6, hs6, h6c, h6m⟩ := HR0.out.shape
      subst hs6
      have hr1 := HA.out.partH (a := 1) rfl
      have HR1 : Hid (S10.Row wr 0 1 u7 m (ptrs Bs)) := Lib.hid (by rw [hm]; exact hr1)
      clear hr1
      obtain ⟨A7, c7, hs7, h7c, h7m⟩ := HR1.out.shape
      subst hs7
      have hq := HA.out.queue HWK.out (fun x hx => by obtain ⟨y, _, rfl⟩ := List.mem_map.1 hx; rfl) (by rw [List.length_map]; have := HI.out.2; have := HN40.out; omega)
      rw [List.length_map, iVn_eN, ← hm] at hq
      have HQ := Lib.hid hq
      have HM := Lib.hid hm
      obtain ⟨kB, htk⟩ := HA.out.tick
      have HTK := Lib.hid htk
      clear hq hm htk
      go_upto_region 27 with (first | (go_at_call 13; refine HQ.out.mono ?_; rintro e w2 ⟨A9, c9, rfl, hr, hb⟩; have HRQ := Lib.hid hr; have HB2 := Lib.hid hb; clear hr hb) | (go_at_call 12; refine (same_eq (by rw [List.length_map]; exact HM.out.symm) HRQ.out (HR0.out.new HB2.out).rd (iVn_int O) (by have := HI.out.2; have := HM.out; have := HN40.out; omega)).mono ?_; rintro e w3 ⟨rfl, hb3⟩; have HB3 := Lib.hid (HB2.out.trans (hb3.mono HB2.out.size)); clear hb3))
      clear d1 d2
      have k1 := (HTK.out _ HB3.out).1
      go_upto_region 28 with (go_at_call 14; refine ((HTK.out _ HB3.out).2 9 (by omega)).mono ?_; rintro e w4 ⟨rfl, h4⟩; have HA4 := Lib.hid h4; clear h4)
      clear k1
      have HOT : Hid (Ord (M.tick 9) O 0) := Lib.hid (HO.out.tick 9)
      have HWT : Hid (Wk (M.tick 9) a pi (qN late O 0) 9 500) := Lib.hid (by rw [qN_0]; exact (HWK.out.tick 9 (by omega)).mono (by have := HN40.out; omega))
      obtain ⟨wo, rfl⟩ : ∃ wo : World, wo = wr := ⟨_, rfl⟩
      go_wp2_with fail
      go_loopg [15, 16, 17, 18] m (fun q s15 s16 s17 s18 wy => ∃ (j : Nat) (M : Sd) (L : List Rows), j ≤ m ∧ q = m - j ∧ s15 = .int .i64 (j : Int) ∧ AllS w wy w.heap.size WB M (hP (.slice A6 m c6) (.slice A7 m c7) u8 late O Bs up) L ∧ SlpR late O pi L Bs j ∧ Wk M a pi (qN late O j) 9 (500 + 60 * j) ∧ Ord M O j)
      case atStart => exact ⟨0, M.tick 9, L, by omega, by omega, rfl, HA4.out, HS.out.all, HWT.out, HOT.out⟩
      case round =>
        obtain ⟨j, M2, L2, hj, rfl, rfl, ha2, hs2, hw2, ho2⟩ := hrel
        have HA2 := Lib.hid ha2; have HS2 := Lib.hid hs2; have HW2 := Lib.hid hw2; have HO2 := Lib.hid ho2
        clear ha2 hs2 hw2 ho2
        by_cases hjm : j < m
        · have d1 : decide ((j : Int) < (m : Int)) = true := decide_eq_true (by omega)
          have d2 : decide (j < m) = true := decide_eq_true hjm
          have hjo : j < O.length := by have := HM.out; omega
          have HJM := Lib.hid (And.intro hjm hjo)
          obtain ⟨l2, E2, F2, hl2, hsl2⟩ := HS2.out.2.2 j (Nat.le_refl _) hjo
          obtain ⟨B, hB⟩ : ∃ B, B = Bs[j]! := ⟨_, rfl⟩
          rw [← hB] at hsl2
          have HSL := Lib.hid (And.intro hl2 hsl2)
          have hbj : (ptrs Bs)[j]? = some (Pw B) := by
            have h1 : j < Bs.length := by have := HS.out.2.1; omega
            unfold ptrs
            rw [List.getElem?_map, List.getElem?_eq_getElem h1, hB, getElem!_pos Bs j h1]
            rfl
          have HBJ := Lib.hid hbj
          have HCL : Hid (∀ W M' L', AllS w W w.heap.size WB M' (hP (.slice A6 m c6) (.slice A7 m c7) u8 late O Bs up) L' → ∃ g o, A7 = some ⟨g, o, none⟩ ∧ W.cell? ⟨g, o + j, none⟩ = some (Pw B)) := Lib.hid (fun W M' L' h => by
            have hp := h.partH (a := 1) rfl
            have hp' : S10.Row W 0 1 (.slice A7 m c7) m (ptrs Bs) := by
              have hp2 : S10.Row W 0 1 (.slice A7 m c7) O.length (ptrs Bs) := hp
              rw [← HM.out] at hp2
              exact hp2
            obtain ⟨g, o, cap, e, _, _, hc⟩ := row_at hp' HBJ.out
            injection e with e1 e2 e3
            exact ⟨g, o, e1, hc⟩)
          obtain ⟨g7, o7, rfl, c7a⟩ := HCL.out _ _ _ HA2.out
          clear hjo hl2 hsl2 hB hbj
          have ht64 := HO2.out.lt _ (show O[j]! ∈ O by rw [getElem!_pos O j HJM.out.2]; exact List.getElem_mem HJM.out.2)
          have hpp := HO2.out.p j (Nat.le_refl _) HJM.out.2
          have hkk := HO2.out.kw j HJM.out.2
          have hlen : (qN late O j).length ≤ 90 := by have := @qN_len late O j; have := HI.out.2; have := HN40.out; omega
          have hk50 : 500 + 60 * j ≤ 50000 := by have := HJM.out.2; have := HI.out.2; have := HN40.out; omega
          obtain ⟨lt, hlt⟩ : ∃ lt, lt = lb late j := ⟨_, rfl⟩
          cases lt
          · have HLT := Lib.hid hlt.symm
            clear hlt
            have hst := stay_k (D := oD late O j) HT.out.1 HT.out.2.1 HW2.out hk50 hlen HLT.out hpp HA2.out HSL.out.1 HSL.out.2
            have HST := Lib.hid hst
            clear hst ht64 hpp hkk hlen hk50
            go_upto_region 32 with (go_at_call 15; refine HST.out.mono ?_; rintro e w5 ⟨rfl, M5, l5, h5, got5, wk5, pf5, lk5⟩; have H5 := Lib.hid h5; have HG5 := Lib.hid (got5 _ h5); have HW5 : Hid (Wk M5 a pi (qN late O (j + 1)) 9 (500 + 60 * (j + 1))) := Lib.hid (by rw [qN_stay HJM.out.2 HLT.out]; exact wk5.mono (by omega)); have HP5 : Hid (Ord M5 O (j + 1)) := Lib.hid (HO2.out.step HJM.out.2 pf5 lk5); clear h5 got5 wk5 pf5 lk5)
            clear c7a
            obtain ⟨g8, o8, e8, c8a⟩ := HCL.out _ _ _ H5.out
            injection e8 with e8
            injection e8 with e8a e8b e8c
            subst e8a e8b
            go_upto_region 33 with (go_at_call 16; refine HG5.out.mono ?_; rintro e w6 ⟨rfl, rfl⟩)
            clear c8a d1 d2 hjm HG5 HST
            go_wp2_with fail
            go_roundg (m - (j + 1))
            case measure => have := HJM.out.1; omega
            case rel =>
              have h9 := HJM.out
              exact ⟨j + 1, M5, L2.set j l5, h9.1, by omega, congrArg (Value.int .i64) (by first | omega | (unfold wrap64; omega)), H5.out, HS2.out.step l5, HW5.out, HP5.out⟩
          · have HLT := Lib.hid hlt.symm
            clear hlt
            have hst := late_k (D := oD late O j) HT.out.1 HT.out.2.1 HW2.out hk50 hlen ht64 rfl rfl HLT.out (show (5 : Nat) ≤ 9 by omega) hpp hkk HA2.out HSL.out.1 HSL.out.2
            have HST := Lib.hid hst
            clear hst ht64 hpp hkk hlen hk50
            go_upto_region 32 with (go_at_call 15; refine HST.out.mono ?_; rintro e w5 ⟨nn, hn0, hn9, rfl, M5, l5, h5, got5, wk5, pf5, lk5⟩; have HNN := Lib.hid (And.intro hn0 hn9); clear hn0 hn9; have H5 := Lib.hid h5; have HG5 := Lib.hid (got5 _ h5); have HW5 : Hid (Wk M5 a pi (qN late O (j + 1)) 9 (500 + 60 * (j + 1))) := Lib.hid (by rw [← qN_late HJM.out.2 HLT.out HO2.out.nd]; exact wk5.mono (by omega)); have HP5 : Hid (Ord M5 O (j + 1)) := Lib.hid (HO2.out.step HJM.out.2 pf5 lk5); clear h5 got5 wk5 pf5 lk5)
            clear c7a
            obtain ⟨g8, o8, e8, c8a⟩ := HCL.out _ _ _ H5.out
            injection e8 with e8
            injection e8 with e8a e8b e8c
            subst e8a e8b
            go_upto_region 33 with (go_at_call 16; refine HG5.out.mono ?_; rintro e w6 ⟨rfl, rfl⟩)
            clear c8a d1 d2 hjm HG5 HST
            have d3 : decide ((0 : Int) < (nn : Int)) = true := decide_eq_true (by have := HNN.out.1; omega)
            have d4 : decide (0 < nn) = true := decide_eq_true HNN.out.1
            go_wp2_with fail
            go_roundg (m - (j + 1))
            case measure => have := HJM.out.1; omega
            case rel =>
              have h9 := HJM.out
              exact ⟨j + 1, M5, L2.set j l5, h9.1, by omega, congrArg (Value.int .i64) (by first | omega | (unfold wrap64; omega)), H5.out, HS2.out.step l5, HW5.out, HP5.out⟩
        · obtain rfl : j = m := by omega
          have d1 : decide ((j : Int) < (j : Int)) = false := decide_eq_false (by omega)
          have d2 : decide (j < j) = false := decide_eq_false (by omega)
          have hq := HA2.out.queue HW2.out (qN_key late O j) (by have := @qN_len late O j; have := HI.out.2; have := HN40.out; omega)
          rw [HM.out, qN_n, List.length_map, iVn_eN] at hq
          have hr8 := HA2.out.partH (a := 2) rfl
          have HR8 : Hid (S10.Row wr 0 1 u8 (lefts late O).length ((lefts late O).map iVn)) := Lib.hid hr8
          clear hr8
          obtain ⟨A8, c8, hs8, h8c, h8m⟩ := HR8.out.shape
          subst hs8
          have HLL : Hid ((lefts late O).length ≤ 40) := Lib.hid (by have := lefts_len late O; have := HI.out.2; have := HN40.out; omega)
          have HBW : Hid (Below w.heap.size w wr) := Lib.hid HA2.out.bl
          obtain ⟨ll, hll⟩ : ∃ ll, ll = (lefts late O).length := ⟨_, rfl⟩
          rw [← hll] at hq HR8 HLL h8c
          rw [← hll]
          have HQ2 := Lib.hid hq
          have HLQ : Hid (((lefts late O).map iVn).length = ll) := Lib.hid (by rw [List.length_map]; exact hll.symm)
          clear hq hll
          go_wp2_with (first | (go_at_call 13; refine HQ2.out.mono ?_; rintro e w5 ⟨A9, c9, rfl, hr, hb⟩; have HRQ2 := Lib.hid hr; have HB5 := Lib.hid hb; clear hr hb) | (go_at_call 12; refine (same_eq HLQ.out HRQ2.out (HR8.out.new HB5.out).rd (iVn_int _) (by have := HLL.out; omega)).mono ?_; rintro e w6 ⟨rfl, hb6⟩; have HB6 := Lib.hid ((HBW.out.trans (HB5.out.mono HBW.out.size)).trans (hb6.mono (HBW.out.trans (HB5.out.mono HBW.out.size)).size)); clear hb6) | (go_at_call 9; refine (HLV.out _ HB6.out).mono ?_; rintro e w7 ⟨rfl, hb7⟩; have HB7 := Lib.hid (HB6.out.trans (hb7.mono HB6.out.size)); clear hb7))
          go_ret
          exact ⟨rfl, HB7.out⟩
end
end Go.Proofs.YtjppncglkijbjaaGreatDoor.S19
