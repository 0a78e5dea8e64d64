/- Texts of this seat, one behind the other. -/
import Derived.Test.YtpmafdggbeppcaaGreatDoorMLawVoid1833
set_option linter.unusedVariables false
set_option linter.unusedSimpArgs false
namespace Go.Proofs.YtpmafdggbeppcaaGreatDoor.S10
set_option maxRecDepth 100000
set_option maxHeartbeats 16000000
open Go.Proofs.YtpmafdggbeppcaaGreatDoor
open Go.RowKit
theorem reh_step (h : Nat → Nat) (k : Nat) (E : List Ent) : reh h (k + 1) E = reh h k E ++ [bk h k E] := by
  unfold reh
  rw [List.range_succ, List.map_append]; rfl
theorem take_el {E : List Ent} {m : Nat} (h : m < E.length) : E.take (m + 1) = E.take m ++ [el E m] := take_snoc h
theorem rrehash_any {w : World} {base n c : Nat} {b : Int} {A : Option Addr} {Ls : List (List Ent)} (h : Nat → Nat)
    (hs : ∀ w, Calls Tryz.prog 120 #[.int .i64 b] w fun e w' => e = .returned (.int .i64 (n : Nat)) ∧ w = w')
    (hh : 0 < n → ∀ (k : Nat) w, k < 4294967296 → Calls Tryz.prog 121 #[.int .u32 k, .int .i64 b] w fun e w' => e = .returned (.int .i64 (h k : Nat)) ∧ w = w')
    (hn : n ≤ 256) (hq : Qs w base A Ls) (hbase : base ≤ w.heap.size) (hc : Ls.length ≤ c) (hc9 : c ≤ 9223372036854775807) (hkeys : Keys Ls.flatten) (hlen : Ls.length ≤ 1000000) (hlen2 : Ls.flatten.length ≤ 100000) :
    Calls Tryz.prog 83 #[.slice A Ls.length c, .int .i64 b] w fun e w' => ∃ s ss, e = .returned s ∧ Tab w' w.heap.size s ss (reh h n Ls.flatten) ∧ Below w.heap.size w w' := by
  have HS := Lib.hid hs; have HH := Lib.hid hh; have HQ := Lib.hid hq; have HK := Lib.hid hkeys; have HBS := Lib.hid hbase; have HL2 := Lib.hid hlen2
  clear hs hh hq hkeys hbase hlen2
  obtain ⟨N, hN⟩ : ∃ N, N = Ls.length := ⟨_, rfl⟩
  rw [← hN] at hc hlen ⊢
  have HN := Lib.hid hN
  clear hN
  obtain ⟨E, hE⟩ : ∃ E, E = Ls.flatten := ⟨_, rfl⟩
  have HE := Lib.hid hE
  rw [← hE] at HL2 ⊢
  clear hE
  go_enter Tryz.func83, Tryz.ntmps83
  go_wp2_with fail
  go_loopg [5, 6] n (fun q s5 s6 wx => ∃ (k : Nat) (ss : List Value), k ≤ n ∧ q = n - k ∧ s6 = .int .i64 (k : Int) ∧ Tab wx w.heap.size s5 ss (reh h k E) ∧ Below w.heap.size w wx)
  case atStart => exact ⟨0, [], by omega, rfl, rfl, tab_nil _ _, Below.refl _ _⟩
  case round =>
    obtain ⟨k, ss, hk, rfl, rfl, ht, hb⟩ := hrel
    have HT := Lib.hid ht; have HB := Lib.hid hb
    clear ht hb
    obtain ⟨wo, rfl⟩ : ∃ wo : World, wo = wr := ⟨_, rfl⟩
    by_cases hkn : k < n
    · have HHH := Lib.hid (HH.out (by omega))
      go_wp2_with (go_at_call 120; refine (HS.out _).mono ?_; rintro e w' ⟨rfl, rfl⟩)
      go_loopg [7, 8] N (fun q s7 s8 wx => ∃ i : Nat, i ≤ N ∧ q = N - i ∧ s8 = .int .i64 (i : Int) ∧ RowE wx wo.heap.size s7 (bk h k (E.take (cum Ls i))) ∧ (s7 = .slice none 0 0 ∨ 0 < (bk h k (E.take (cum Ls i))).length) ∧ Below wo.heap.size wo wx)
      case atStart => exact ⟨0, by omega, rfl, rfl, row_nil _ _ _, Or.inl rfl, Below.refl _ _⟩
      case round =>
        obtain ⟨i, hi, rfl, rfl, hrow, hnn, hbo⟩ := hrel
        have HR := Lib.hid hrow; have HNN := Lib.hid hnn; have HBO := Lib.hid hbo
        clear hrow hnn hbo
        obtain ⟨wm, rfl⟩ : ∃ wm : World, wm = wr := ⟨_, rfl⟩
        by_cases hiN : i < N
        · have hil : i < Ls.length := by have := HN.out; omega
          have hbw : Below w.heap.size w wm := HB.out.trans (HBO.out.mono HB.out.size)
          have HBW := Lib.hid hbw
          obtain ⟨g, o, A', c', rfl, hg, cq0, hc', hc9', hrd⟩ := HQ.out.at hil
          have HRD := Lib.hid hrd
          have HKI := Lib.hid (fun j => keys_in HK.out hil (j := j))
          have HCS := Lib.hid (cum_succ hil)
          have hca : ∀ j, j < Ls[i]!.length → el Ls.flatten (cum Ls i + j) = el Ls[i]! j := fun j hj => cum_at hil hj
          have hcl : ∀ j, j < Ls[i]!.length → cum Ls i + j < Ls.flatten.length := fun j hj => cum_mono hil hj
          rw [← HE.out] at hca hcl
          have HCA := Lib.hid hca; have HCL := Lib.hid hcl
          obtain ⟨D, hD⟩ : ∃ D, D = Ls[i]! := ⟨_, rfl⟩
          rw [← hD] at cq0 hc' HRD HKI HCS HCA HCL
          obtain ⟨M, hM⟩ : ∃ M, M = D.length := ⟨_, rfl⟩
          rw [← hM] at cq0 hc' HKI HCS HCA HCL
          have HM := Lib.hid hM
          clear hM hD hrd hbw hca hcl
          have hgw : g < w.heap.size := by have := HBS.out; omega
          have cq : wm.cell? ⟨g, o + i, none⟩ = some (.slice A' M c') := (HBW.out.cell (p := ⟨g, o + i, none⟩) hgw).trans cq0
          have CQ0 := Lib.hid cq0
          clear cq0
          go_wp2_with fail
          go_loopg [7, 9] M (fun q s7 s9 wx => ∃ j : Nat, j ≤ M ∧ q = M - j ∧ s9 = .int .i64 (j : Int) ∧ RowE wx wo.heap.size s7 (bk h k (E.take (cum Ls i + j))) ∧ (s7 = .slice none 0 0 ∨ 0 < (bk h k (E.take (cum Ls i + j))).length) ∧ Below wo.heap.size wo wx ∧ Below w.heap.size w wx)
          case atStart => exact ⟨0, by omega, rfl, rfl, HR.out, HNN.out, HBO.out, HBW.out⟩
          case round =>
            obtain ⟨j, hj, rfl, rfl, hrow, hnn, hbo, hbx⟩ := hrel
            have HR3 := Lib.hid hrow; have HNN3 := Lib.hid hnn; have HBO3 := Lib.hid hbo; have HBX := Lib.hid hbx
            clear hrow hnn hbo hbx
            have cq3 : wr.cell? ⟨g, o + i, none⟩ = some (.slice A' M c') := (HBX.out.cell (p := ⟨g, o + i, none⟩) hgw).trans CQ0.out
            by_cases hjm : j < M
            · obtain ⟨kk, hkk, hk2⟩ := HKI.out j hjm
              obtain ⟨g1, o1, rfl, hg1, c0, c1, c2⟩ := (HRD.out.below HBX.out HBS.out).key (i := j) (by have := HM.out; omega) hkk
              have hca := HCA.out j hjm
              have hcl := HCL.out j hjm
              have hte := take_el (E := E) (m := cum Ls i + j) hcl
              rw [hca] at hte
              have hle := bk_le h k (E.take (cum Ls i + j))
              rw [List.length_take] at hle
              have hL2 := HL2.out
              have hbs := bk_snoc h k (E.take (cum Ls i + j)) (el D j)
              rw [← hte] at hbs
              obtain ⟨F, hF⟩ : ∃ F, F = bk h k (E.take (cum Ls i + j)) := ⟨_, rfl⟩
              rw [← hF] at hle hbs
              have HRF : Hid (RowE wr wo.heap.size u7 F) := Lib.hid (by rw [hF]; exact HR3.out)
              have HNF : Hid (u7 = .slice none 0 0 ∨ 0 < F.length) := Lib.hid (by rw [hF]; exact HNN3.out)
              obtain ⟨d, hd⟩ : ∃ d, d = el D j := ⟨_, rfl⟩
              rw [← hd] at c0 c2 hkk hbs
              rw [hkk, Int.toNat_natCast] at hbs
              have HFL := Lib.hid (show F.length + 1 ≤ 1000000 by omega)
              have HBK := Lib.hid hbs
              have HKK := Lib.hid hkk
              have hgr : g < wr.heap.size := by have := HBX.out.size; omega
              clear hca hcl hte hle hL2 hbs hF hd hkk
              by_cases heq : h kk = k
              · have he : ((h kk : Nat) : Int) = (k : Int) := by omega
                go_wp2_with (first
                  | (go_at_call 121; refine (HHH.out kk _ hk2).mono ?_; rintro e w' ⟨rfl, rfl⟩)
                  | (at_builtin; refine wpList_append_row layO rfl _ _ rfl rfl (HRF.out.alloc _) (flat_one' _) (by have := HBO3.out.size; simp; omega) 1 rfl (rd_one wr ⟨d.t, (kk : Int), d.z⟩ 230) rfl (flat_one' _) HFL.out ?_; intro v2 w2 hr2 ht2 ho2; (have HR2 := Lib.hid hr2); (have HT2 := Lib.hid ht2); (clear hr2 ht2 ho2)))
                go_roundg (M - (j + 1))
                case measure => omega
                case rel =>
                  have hdd : (⟨d.t, (kk : Int), d.z⟩ : Ent) = d := by rw [← HKK.out]
                  have hba := HBO3.out.alloc HBO3.out.size (.cells #[.int .i64 d.t, .int .u32 (kk : Int), .int .u64 d.z] 230)
                  have hb2 := HT2.out.below (B := wo.heap.size) (by have := hba.size; exact this) (fun j hj e => by have := (HRF.out.lt j e).1; omega)
                  have hb3 := hba.trans hb2
                  have hbk := HBK.out
                  rw [if_pos heq] at hbk
                  refine ⟨j + 1, by omega, rfl, by go_num, ?_, ?_, hb3, HB.out.trans (hb3.mono HB.out.size)⟩
                  · rw [show cum Ls i + (j + 1) = cum Ls i + j + 1 by omega, hbk]
                    have h2 := HR2.out
                    rw [hdd] at h2
                    show Row _ _ 3 _ (F ++ [d]).length (flat (F ++ [d]))
                    rw [flat_app, List.length_append, List.length_singleton]
                    exact h2
                  · rw [show cum Ls i + (j + 1) = cum Ls i + j + 1 by omega, hbk]
                    exact Or.inr (by simp)
              · have he : (((h kk : Nat) : Int) == (k : Int)) = false := by rw [beq_eq_false_iff_ne]; omega
                go_wp2_with (go_at_call 121; refine (HHH.out kk _ hk2).mono ?_; rintro e w' ⟨rfl, rfl⟩)
                go_roundg (M - (j + 1))
                case measure => omega
                case rel =>
                  have hbk := HBK.out
                  rw [if_neg heq] at hbk
                  refine ⟨j + 1, by omega, rfl, by go_num, ?_, ?_, HBO3.out, HBX.out⟩
                  · rw [show cum Ls i + (j + 1) = cum Ls i + j + 1 by omega, hbk]
                    exact HRF.out
                  · rw [show cum Ls i + (j + 1) = cum Ls i + j + 1 by omega, hbk]
                    exact HNF.out
            · obtain rfl : j = M := by omega
              go_wp2_with fail
              go_roundg (N - (i + 1))
              case measure => omega
              case rel =>
                refine ⟨i + 1, by omega, rfl, by go_num, ?_, ?_, HBO3.out⟩
                · rw [HCS.out]; exact HR3.out
                · rw [HCS.out]; exact HNN3.out
        · obtain rfl : i = N := by omega
          have hall : E.take (cum Ls i) = E := by
            rw [HN.out, cum_all, ← HE.out, List.take_length]
          have HRF : Hid (RowE wm wo.heap.size u7 (bk h k E)) := Lib.hid (by have := HR.out; rwa [hall] at this)
          have HNF : Hid (u7 = .slice none 0 0 ∨ 0 < (bk h k E).length) := Lib.hid (by have := HNN.out; rwa [hall] at this)
          obtain ⟨A1, c1, rfl, _, _⟩ := HRF.out.shape
          obtain ⟨m1, hm1⟩ : ∃ m1, m1 = (bk h k E).length := ⟨_, rfl⟩
          rw [← hm1]
          have HM1 := Lib.hid hm1
          have htl : (reh h k E).length = k := reh_len h k E
          have HTL := Lib.hid htl
          have hL2 := HL2.out
          have HTB : Hid (Tab wm w.heap.size u5 ss (reh h k E)) := Lib.hid (HT.out.new HBO.out)
          clear hm1 hall htl
          go_wp2_with (at_builtin; refine wpList_append_row layR rfl _ _ rfl rfl (HTB.out.row.alloc _) HT.out.one (by have := HB.out.size; have := HBO.out.size; simp; omega) 1 rfl (rd_one1 wm (.slice A1 m1 c1) 132) rfl (fun u hu => by simp at hu; rw [hu]; rfl) (by have := HTL.out; omega) ?_; intro v2 w2 hr2 ht2 ho2; (have HR2 := Lib.hid hr2); (have HT2 := Lib.hid ht2); (have HO2 := Lib.hid ho2); (clear hr2 ht2 ho2))
          go_roundg (n - (k + 1))
          case measure => omega
          case rel =>
            have hba := HBO.out.alloc HBO.out.size (.cells #[.slice A1 m1 c1] 132)
            have hrow : RowE wm wo.heap.size (.slice A1 m1 c1) (bk h k E) := by rw [HM1.out]; exact HRF.out
            refine ⟨k + 1, ss ++ [.slice A1 m1 c1], by omega, rfl, by go_num, ?_, ?_⟩
            · rw [reh_step]
              exact HT.out.push HB.out.size hba (hrow.alloc _) ((cb_of hrow (by rw [HM1.out]; exact HNF.out)).turn ((Turns.refl (fun _ => False) _).alloc _) (fun _ _ e => e)) (by have := HR2.out; exact this) HT2.out HO2.out
            · exact HB.out.trans ((hba.mono HB.out.size).trans (HT2.out.below (by have := HB.out.size; have := hba.size; omega) (fun j hj e => by have := (HT.out.row.lt j e).1; omega)))
    · obtain rfl : k = n := by omega
      go_wp2_with (go_at_call 120; refine (HS.out _).mono ?_; rintro e w' ⟨rfl, rfl⟩)
      go_ret
      exact ⟨_, ss, rfl, HT.out, HB.out⟩
end Go.Proofs.YtpmafdggbeppcaaGreatDoor.S10
namespace Go.Proofs.YtpmafdggbeppcaaGreatDoor.S10
open Go.Proofs.YtpmafdggbeppcaaGreatDoor
open Go.RowKit
structure Kit (b : Int) (n : Nat) (h : Nat → Nat) : Prop where
  size : ∀ w, Calls Tryz.prog 119 #[.int .i64 b] w fun e w' => e = .returned (.int .i64 (n : Nat)) ∧ w = w'
  rsize : ∀ w, Calls Tryz.prog 120 #[.int .i64 b] w fun e w' => e = .returned (.int .i64 (n : Nat)) ∧ w = w'
  hash : 0 < n → ∀ (k : Nat) w, k < 4294967296 → Calls Tryz.prog 112 #[.int .u32 k, .int .i64 b] w fun e w' => e = .returned (.int .i64 (h k : Nat)) ∧ w = w'
  rhash : 0 < n → ∀ (k : Nat) w, k < 4294967296 → Calls Tryz.prog 121 #[.int .u32 k, .int .i64 b] w fun e w' => e = .returned (.int .i64 (h k : Nat)) ∧ w = w'
  lt : 0 < n → ∀ k, k < 4294967296 → h k < n
  few : n ≤ 256
theorem rehash_none {w : World} {b : Int} {A : Option Addr} {m c : Nat} (hs : ∀ w, Calls Tryz.prog 119 #[.int .i64 b] w fun e w' => e = .returned (.int .i64 (0 : Nat)) ∧ w = w') :
    Calls Tryz.prog 86 #[.slice A m c, .int .i64 b] w fun e w' => e = .returned (.slice none 0 0) ∧ Below w.heap.size w w' := by
  have HS := Lib.hid hs
  clear hs
  go_enter Tryz.func86, Tryz.ntmps86
  go_wp2_with (go_at_call 119; refine (HS.out _).mono ?_; rintro e w' ⟨rfl, rfl⟩)
  go_ret
  exact ⟨rfl, (Below.refl _ w).alloc (Nat.le_refl _) _⟩
theorem rehash_all {w : World} {base n c : Nat} {b : Int} {A : Option Addr} {Ls : List (List Ent)} {h : Nat → Nat} (K : Kit b n h) (hq : Qs w base A Ls) (hbase : base ≤ w.heap.size) (hc : Ls.length ≤ c) (hc9 : c ≤ 9223372036854775807) (hkeys : Keys Ls.flatten) (hlen : Ls.length ≤ 1000000) (hlen2 : Ls.flatten.length ≤ 100000) :
    Calls Tryz.prog 86 #[.slice A Ls.length c, .int .i64 b] w fun e w' => ∃ s ss, e = .returned s ∧ Tab w' w.heap.size s ss (reh h n Ls.flatten) ∧ (∀ i, i < n → ∃ A' m, ss[i]? = some (.slice A' m m)) ∧ Below w.heap.size w w' := by
  by_cases h0 : 0 < n
  · exact rehash_any h K.size (K.hash h0) (K.lt h0) h0 K.few hq hbase hc hc9 hkeys hlen hlen2
  · obtain rfl : n = 0 := by omega
    refine (rehash_none K.size).mono ?_
    rintro e w' ⟨rfl, hb⟩
    exact ⟨_, [], rfl, tab_nil _ _, fun i hi => by omega, hb⟩
theorem kits : ∃ h : Nat → Nat → Nat, (∀ k : Nat, 2 ≤ k → k ≤ 8 → Kit (k : Int) (2 ^ k) (h k)) ∧ ∀ b : Nat, b < 64 → ∀ k, h (b + 1) k / 2 = h b k := by
  obtain ⟨h, h1, h2, h3, h4, -⟩ := hash_kit
  refine ⟨h, fun k hk hk8 => ?_, h4⟩
  have hz : sizeN (k : Int) = 2 ^ k := by unfold sizeN; rw [if_pos (by omega)]; rfl
  refine ⟨fun w => ?_, fun w => ?_, fun _ => h1 k (by omega) (by omega), fun _ => h2 k (by omega) (by omega), fun _ x _ => h3 k (by omega) x, pow_bits k (by omega)⟩
  · rw [← hz]; exact size_any k w
  · rw [← hz]; exact rsize_any k w
end Go.Proofs.YtpmafdggbeppcaaGreatDoor.S10
namespace Go.Proofs.YtpmafdggbeppcaaGreatDoor.S10
set_option maxRecDepth 100000
set_option maxHeartbeats 16000000
open Go.Proofs.YtpmafdggbeppcaaGreatDoor
open Go.RowKit
section
variable {w : World} {s : Value} {F : Int → Value} {M : Int → List Bk}
theorem grow_no (h : Rs w s F M) {fr tg : Int} (hf : InI fr) (ht : InI tg) (now : Int) (hno : M fr = [] ∨ tg ≤ fr ∨ 8 < tg ∨ M tg ≠ []) :
    Calls Tryz.prog 38 #[s, .int .i64 fr, .int .i64 tg, .int .u64 now] w fun e w' => e = .returned (.bool false) ∧ w = w' := by
  obtain ⟨A, c, V, h1, -⟩ := h.rd fr
  obtain ⟨A2, c2, V2, h2, -⟩ := h.rd tg
  have HF := has_any h.sv hf h1
  have HT := has_any h.sv ht h2
  by_cases e0 : M fr = []
  · rw [e0] at HF
    have hf0 : decide (0 < ([] : List Bk).length) = false := by decide
    rw [hf0] at HF
    have HF := Lib.hid HF
    clear h h1 h2 HT
    go_enter Tryz.func38, Tryz.ntmps38
    go_wp2_with (go_at_call 49; refine HF.out.mono ?_; rintro e w' ⟨rfl, rfl⟩)
    go_ret
    exact ⟨rfl, rfl⟩
  · have hf1 : decide (0 < (M fr).length) = true := by simpa using List.length_pos_iff.2 e0
    rw [hf1] at HF
    have HF := Lib.hid HF
    by_cases e1 : tg ≤ fr
    · have d1 : decide (tg ≤ fr) = true := by simpa using e1
      clear h h1 h2 HT
      go_enter Tryz.func38, Tryz.ntmps38
      go_wp2_with (go_at_call 49; refine HF.out.mono ?_; rintro e w' ⟨rfl, rfl⟩)
      go_ret
      exact ⟨rfl, rfl⟩
    · have d1 : decide (tg ≤ fr) = false := by simpa using e1
      by_cases e2 : 8 < tg
      · have d2 : decide (8 < tg) = true := by simpa using e2
        clear h h1 h2 HT
        go_enter Tryz.func38, Tryz.ntmps38
        go_wp2_with (go_at_call 49; refine HF.out.mono ?_; rintro e w' ⟨rfl, rfl⟩)
        go_ret
        exact ⟨rfl, rfl⟩
      · have d2 : decide (8 < tg) = false := by simpa using e2
        have e3 : M tg ≠ [] := by
          rcases hno with h | h | h | h
          · exact absurd h e0
          · exact absurd h e1
          · exact absurd h e2
          · exact h
        have hf2 : decide (0 < (M tg).length) = true := by simpa using List.length_pos_iff.2 e3
        rw [hf2] at HT
        have HT := Lib.hid HT
        clear h h1 h2
        go_enter Tryz.func38, Tryz.ntmps38
        go_wp2_with (first
          | (go_at_call 49; ((with_reducible refine HF.out.mono ?_)); rintro e w' ⟨rfl, rfl⟩)
          | (go_at_call 49; ((with_reducible refine HT.out.mono ?_)); rintro e w' ⟨rfl, rfl⟩))
        go_ret
        exact ⟨rfl, rfl⟩
end
open Classical in
theorem own_new (own : Nat → Option Role) (New : Nat → Role → Prop) (Drop : Nat → Prop) (X : Nat) (hfun : ∀ x r r', New x r → New x r' → r = r') (hnew : ∀ x r, New x r → X ≤ x) (hold : ∀ x r, own x = some r → x < X) :
    ∃ own' : Nat → Option Role, (∀ x r, New x r → own' x = some r) ∧ (∀ x r, own x = some r → ¬ Drop x → own' x = some r) ∧ (∀ x r, own' x = some r → own x = some r ∨ New x r) := by
  refine ⟨fun x => if h : ∃ r, New x r then some h.choose else if Drop x then none else own x, fun x r h => ?_, fun x r h hd => ?_, fun x r h => ?_⟩
  · have hx : ∃ r, New x r := ⟨r, h⟩
    dsimp only
    rw [dif_pos hx, hfun x _ _ hx.choose_spec h]
  · have hx : ¬ ∃ r, New x r := fun ⟨r', h'⟩ => by
      have := hnew x r' h'; have := hold x r h; omega
    dsimp only
    rw [dif_neg hx, if_neg hd, h]
  · dsimp only at h
    by_cases hx : ∃ r, New x r
    · rw [dif_pos hx] at h
      cases h
      exact .inr hx.choose_spec
    · rw [dif_neg hx] at h
      split at h
      · cases h
      · exact .inl h
section
variable {w : World} {base : Nat} {own : Nat → Option Role} {s : Value} {n : Nat} {M : Int → List Bk}
def grown (M : Int → List Bk) (h : Nat → Nat) (N : Nat) (fr tg now : Int) : Int → List Bk :=
  upd (upd M fr (hollow (M fr))) tg (fresh now (reh h N ((M fr).map Bk.q).flatten))
theorem grow_yes (hst : St w base own s n M) {fr tg : Int} (hf : InI fr) (ht : InI tg) (now : Int) (h0 : M fr ≠ []) (h1 : fr < tg) (h2 : tg ≤ 8) (h3 : M tg = []) {N : Nat} {h : Nat → Nat} (K : Kit tg N h)
    (hl : (M fr).length ≤ 256) (hkeys : Keys ((M fr).map Bk.q).flatten) (hfew : ((M fr).map Bk.q).flatten.length ≤ 100000) (hn9 : n < 1000000) :
    Calls Tryz.prog 38 #[s, .int .i64 fr, .int .i64 tg, .int .u64 now] w fun e w' => e = .returned (.bool true) ∧ ∃ own', St w' base own' s (n + 1) (grown M h N fr tg now) ∧ Turns (Mine own) w w' ∧ Fresh own own' w := by
  obtain ⟨sb, mb, F, V, H⟩ := hst
  obtain rfl := H.hs
  have hpos : 0 < (M fr).length := List.length_pos_iff.2 h0
  obtain ⟨g, o, c, hF, hog, -⟩ := H.bk (b := fr) (i := 0) hpos
  have HFR := has_any H.rs.sv hf hF
  obtain ⟨A2, c2, V2, hF2, -⟩ := H.rs.rd tg
  have HTO := has_any H.rs.sv ht hF2
  have hd0 : decide (0 < (M fr).length) = true := by simpa using hpos
  have hd1 : decide (0 < (M tg).length) = false := by rw [h3]; decide
  rw [hd0] at HFR
  rw [hd1] at HTO
  have HFR := Lib.hid HFR; have HTO := Lib.hid HTO
  have d1 : decide (tg ≤ fr) = false := by simpa using h1
  have d2 : decide (8 < tg) = false := by simpa using h2
  obtain ⟨m, hm⟩ : ∃ m, m = (M fr).length := ⟨_, rfl⟩
  obtain ⟨E, hE⟩ : ∃ E, E = ((M fr).map Bk.q).flatten := ⟨_, rfl⟩
  rw [← hm] at hF hl hpos
  have hgm : g ≠ mb := H.ne hog H.om (by simp)
  have hgs : g ≠ sb := H.ne hog H.os (by simp)
  have hms : mb ≠ sb := H.ne H.om H.os (by simp)
  have hglt := (H.fp g _ hog).2
  have hmlt := (H.fp mb _ H.om).2
  have hslt := (H.fp sb _ H.os).2
  have hS0 : ((w.drew.cell? ⟨sb, 0, none⟩ = some (.map (some mb)) ∧ (Instr.lookup 223 (.map (some mb)) (.int .i64 fr) false).run Tryz.prog w.drew = .ok (.slice (some ⟨g, o, none⟩) m c) w.drew)) := ⟨cell_row H.hc 0, by
    have := MapAt.look (w := w.drew) (mb := mb) (n := n) (F := F) (H.hm.keep (Turns.refl (fun _ => False) w).drew (fun h => h)) hf
    rw [hF] at this
    exact this⟩
  have hSw : ∀ w', Turns (fun x => x = g) w.drew w' → w'.cell? ⟨sb, 0, none⟩ = some (.map (some mb)) ∧ MapAt w' mb n F := fun w' t =>
    ⟨(t.cell (g := sb) (o := 0) hslt (fun e => hgs e.symm)).trans (cell_row H.hc 0), (H.hm.keep (Turns.refl (fun _ => False) w).drew (fun h => h)).keep t (fun e => hgm e.symm)⟩
  have HS1 : Hid (∀ w', Turns (fun x => x = g) w.drew w' → ((w'.cell? ⟨sb, 0, none⟩ = some (.map (some mb)) ∧ (Instr.lookup 223 (.map (some mb)) (.int .i64 fr) false).run Tryz.prog w' = .ok (.slice (some ⟨g, o, none⟩) m c) w'))) := Lib.hid fun w' t => ⟨(hSw w' t).1, by have := (hSw w' t).2.look hf; rwa [hF] at this⟩
  have hbelow : ∀ w1 w2, Turns (fun x => x = g) w.drew w1 → Below w1.heap.size w1 w2 → Turns (fun x => x = g) w.drew w2 := fun w1 w2 t b => t.trans (Turns.of_below (S := fun x => x = g) b) (fun k _ e => e)
  have HS2 : Hid (∀ w1 w2, Turns (fun x => x = g) w.drew w1 → Below w1.heap.size w1 w2 → ((w2.cell? ⟨sb, 0, none⟩ = some (.map (some mb)) ∧ (Instr.lookup 223 (.map (some mb)) (.int .i64 fr) false).run Tryz.prog w2 = .ok (.slice (some ⟨g, o, none⟩) m c) w2))) := Lib.hid fun w1 w2 t b => HS1.out w2 (hbelow w1 w2 t b)
  have HS3 : Hid (∀ w1 w2 w3, Turns (fun x => x = g) w.drew w1 → Below w1.heap.size w1 w2 → Below w2.heap.size w2 w3 → MapAt w3 mb n F ∧ ((w3.cell? ⟨sb, 0, none⟩ = some (.map (some mb)) ∧ (Instr.lookup 223 (.map (some mb)) (.int .i64 fr) false).run Tryz.prog w3 = .ok (.slice (some ⟨g, o, none⟩) m c) w3))) := Lib.hid fun w1 w2 w3 t b b' => ⟨(hSw w3 (hbelow w2 w3 (hbelow w1 w2 t b) b')).2, HS1.out w3 (hbelow w2 w3 (hbelow w1 w2 t b) b')⟩
  have HS4 : Hid (∀ w1 w2 w3 w4 (v : Value), Turns (fun x => x = g) w.drew w1 → Below w1.heap.size w1 w2 → Below w2.heap.size w2 w3 → MapAt w4 mb (n + 1) (upd F tg v) → w3.grownBy w4 (some mb) → ((w4.cell? ⟨sb, 0, none⟩ = some (.map (some mb)) ∧ (Instr.lookup 223 (.map (some mb)) (.int .i64 fr) false).run Tryz.prog w4 = .ok (.slice (some ⟨g, o, none⟩) m c) w4))) := Lib.hid fun w1 w2 w3 w4 v t b b' hm4 hg4 => by
    have t3 := hbelow w2 w3 (hbelow w1 w2 t b) b'
    refine ⟨((grown_turns hg4).cell (g := sb) (o := 0) (Nat.lt_of_lt_of_le hslt t3.size) (fun e => hms (by simpa using e))).trans (hSw w3 t3).1, ?_⟩
    have := hm4.look hf
    rwa [upd_ne _ _ (by omega), hF] at this
  have hVs : ∀ i, i < m → ∃ A' q c', V fr i = .slice A' q c' := fun i hi => by
    obtain ⟨A', c', e, _⟩ := (H.hq fr i (by omega)).shape
    exact ⟨A', _, c', e⟩
  have hrow := H.ht fr
  rw [hF, ← hm] at hrow
  have HE := Lib.hid (emptied_any (w := w.drew) hrow.drew hm.symm hVs (by omega))
  have HRE : Hid (∀ w1 g2, g2 < w1.heap.size → Lies w1 g2 0 ((List.range m).map (V fr)) → Turns (fun x => x = g) w.drew w1 → Calls Tryz.prog 86 #[.slice (some ⟨g2, 0, none⟩) m m, .int .i64 tg] w1 fun e w' => ∃ s ss, e = .returned s ∧ Tab w' w1.heap.size s ss (reh h N E) ∧ (∀ i, i < N → ∃ A' m, ss[i]? = some (.slice A' m m)) ∧ Below w1.heap.size w1 w') := Lib.hid fun w1 g2 hg2 hl2 t => by
    have hq : Qs w1 w1.heap.size (some ⟨g2, 0, none⟩) ((M fr).map Bk.q) := by
      refine ⟨(List.range m).map (V fr), by simp [hm], fun _ => ⟨g2, 0, rfl, hg2, hl2⟩, fun i hi => ?_⟩
      rw [List.length_map] at hi
      have hqi := (H.hq fr i hi).keep ((Turns.refl (fun x => x = g) w).drew.trans t (fun _ _ e => e)) (fun x e e2 => H.ne (H.oq fr i x hi e) hog (by simp) e2)
      obtain ⟨A', c', e, k1, k2⟩ := hqi.shape
      have e3 : ((M fr).map Bk.q)[i]! = (M fr)[i]!.q := by
        rw [getElem!_pos _ i (by rw [List.length_map]; exact hi), getElem!_pos _ i hi]
        simp
      rw [e3]
      refine ⟨A', c', by rw [List.getElem?_map, List.getElem?_range (by omega)]; exact congrArg some e, k1, k2, ?_⟩
      rw [e] at hqi
      exact hqi.rd
    have := rehash_all (c := m) K hq (Nat.le_refl _) (by rw [List.length_map]; omega) (by omega) hkeys (by rw [List.length_map]; omega) hfew
    rw [List.length_map, ← hm, ← hE] at this
    exact this
  have HBE : Hid (∀ w2 A2 c2 ss, Tab w2 (w2.heap.size) (.slice A2 (reh h N E).length c2) ss (reh h N E) → True) := Lib.hid fun _ _ _ _ _ => trivial
  have HH := Lib.hid H; have HM := Lib.hid hm; have HOG := Lib.hid hog; have HF0 := Lib.hid hF
  clear HBE
  have HBE : Hid (∀ w2 b2 A2 c2 ss, Tab w2 b2 (.slice A2 (reh h N E).length c2) ss (reh h N E) → (∀ i, i < N → ∃ A' m, ss[i]? = some (.slice A' m m)) → Calls Tryz.prog 85 #[.slice A2 N c2, .int .u64 now] w2 fun e w' => ∃ g, e = .returned (.slice (some ⟨g, 0, none⟩) N N) ∧ w2.heap.size ≤ g ∧ Row w' w2.heap.size 3 (.slice (some ⟨g, 0, none⟩) N N) N (bflat (fresh now (reh h N E)) (fun i => (ss[i]?).getD nilS)) ∧ Below w2.heap.size w2 w') := Lib.hid fun w2 b2 A2 c2 ss htab hss => by
    refine begun_any (reh h N E) now htab.row.rd (Nat.le_refl _) (by rw [htab.len, reh_len]) (reh_len _ _ _) (fun i hi => ?_) (by have := K.few; omega)
    obtain ⟨A', m, e⟩ := hss i hi
    exact ⟨A', m, m, e⟩
  clear hrow hVs hSw hbelow hm hog hF H
  have hS0' := hS0
  have ht9 := ht
  go_enter Tryz.func38, Tryz.ntmps38
  go_upto_region 3 with (first
    | (go_at_call 49; ((with_reducible refine HFR.out.mono ?_)); rintro e w' ⟨rfl, rfl⟩)
    | (go_at_call 49; ((with_reducible refine HTO.out.mono ?_)); rintro e w' ⟨rfl, rfl⟩))
  refine wp_region_held_drew (S := fun w' => w'.cell? ⟨sb, 0, none⟩ = some (.map (some mb)) ∧ (Instr.lookup 223 (.map (some mb)) (.int .i64 fr) false).run Tryz.prog w' = .ok (.slice (some ⟨g, o, none⟩) m c) w') (by kernel_rfl) ?_ (fun hHeld => ?_)
  · exact hS0'
  refine tA 0 ⟨some 27, .move (.tmp 0), 70, "tables.go:85", #[], none⟩ ?v0 ?r0
  (try simp only [Act.put, tC, tD, tE])
  refine tA 1 ⟨some 28, .nilCheck (.tmp 27), 0, "tables.go:85", #[⟨0, .data⟩], none⟩ ?v1 ?r1
  (try simp only [Act.put, tC, tD, tE])
  refine tA 2 ⟨some 29, .fieldAddr 225 (.tmp 28) 0, 0, "tables.go:85", #[⟨1, .data⟩], none⟩ ?v2 ?r2
  (try simp only [Act.put, tC, tD, tE])
  refine tA 3 ⟨some 30, .load 223 (.tmp 29), 223, "tables.go:85", #[⟨2, .data⟩], none⟩ ?v3 ?r3
  (try simp only [Act.put, tC, tD, tE])
  refine tA 4 ⟨some 31, .move (.tmp 2), 3, "tables.go:85", #[], none⟩ ?v4 ?r4
  (try simp only [Act.put, tC, tD, tE])
  refine tA 5 ⟨some 32, .move (.tmp 0), 70, "tables.go:85", #[], none⟩ ?v5 ?r5
  (try simp only [Act.put, tC, tD, tE])
  refine tA 6 ⟨some 33, .nilCheck (.tmp 32), 0, "tables.go:85", #[⟨5, .data⟩], none⟩ ?v6 ?r6
  (try simp only [Act.put, tC, tD, tE])
  refine tA 7 ⟨some 34, .fieldAddr 225 (.tmp 33) 0, 0, "tables.go:85", #[⟨6, .data⟩], none⟩ ?v7 ?r7
  (try simp only [Act.put, tC, tD, tE])
  refine tA 8 ⟨some 35, .load 223 (.tmp 34), 223, "tables.go:85", #[⟨7, .data⟩], none⟩ ?v8 ?r8
  (try simp only [Act.put, tC, tD, tE])
  refine tA 9 ⟨some 36, .move (.tmp 1), 3, "tables.go:85", #[], none⟩ ?v9 ?r9
  (try simp only [Act.put, tC, tD, tE])
  refine tA 10 ⟨some 37, .lookup 223 (.tmp 35) (.tmp 36) false, 185, "tables.go:85", #[⟨8, .data⟩, ⟨9, .data⟩], none⟩ ?v10 ?r10
  (try simp only [Act.put, tC, tD, tE])
  refine tA 12 ⟨some 39, .move (.tmp 2), 3, "tables.go:85", #[], none⟩ ?v12 ?r12
  (try simp only [Act.put, tC, tD, tE])
  refine tA 14 ⟨some 41, .move (.tmp 3), 29, "tables.go:85", #[], none⟩ ?v14 ?r14
  (try simp only [Act.put, tC, tD, tE])
  refine wpAnyH_ready (rs := [11]) (by kernel_rfl) (by simp) ?_
  refine AllReadyH.cons (o := ⟨some 38, .call ⟨.value (.func 87), #[.tmp 37], #[185]⟩, 220, "tables.go:85", #[⟨10, .data⟩], none⟩) rfl (fun Kq hKq => ?_) AllReadyH.nil
  go_simp
  (refine HE.out.mono ?_; rintro e w1 ⟨g2, rfl, hg2, hg2l, hl2, hr1, ht1⟩; (have HRE2 := Lib.hid (HRE.out w1 g2 hg2l hl2 ht1)); (have HL2 := Lib.hid hl2); (have HR1 := Lib.hid hr1); (have HT1 := Lib.hid ht1); (clear hl2 hr1))
  refine hKq.out _ _ ?_ (fun hHeld => ?_)
  · exact HS1.out w1 ht1
  clear hKq Kq
  (try simp only [Act.put, tC, tD, tE])
  refine wpAnyH_ready (rs := [13]) (by kernel_rfl) (by simp) ?_
  refine AllReadyH.cons (o := ⟨some 40, .call ⟨.value (.func 86), #[.tmp 38, .tmp 39], #[220, 3]⟩, 220, "tables.go:85", #[⟨11, .data⟩, ⟨12, .data⟩, ⟨11, .chain⟩], none⟩) rfl (fun Kq hKq => ?_) AllReadyH.nil
  go_simp
  (refine HRE2.out.mono ?_; rintro e w2 ⟨s2, ss, rfl, htab, hss, hb2⟩; (obtain ⟨A2, c2, rfl, hc2, hc29⟩ := htab.shape); (rw [reh_len]); (have HTAB := Lib.hid htab); (have HSS := Lib.hid hss); (have HB2 := Lib.hid hb2); (have HBG := Lib.hid (HBE.out w2 w1.heap.size A2 c2 ss htab hss)); (clear htab hss hc2 hc29))
  refine hKq.out _ _ ?_ (fun hHeld => ?_)
  · exact HS2.out w1 w2 HT1.out hb2
  clear hKq Kq
  (try simp only [Act.put, tC, tD, tE])
  refine wpAnyH_ready (rs := [15]) (by kernel_rfl) (by simp) ?_
  refine AllReadyH.cons (o := ⟨some 42, .call ⟨.value (.func 85), #[.tmp 40, .tmp 41], #[220, 29]⟩, 185, "tables.go:85", #[⟨13, .data⟩, ⟨14, .data⟩, ⟨13, .chain⟩], none⟩) rfl (fun Kq hKq => ?_) AllReadyH.nil
  go_simp
  (refine HBG.out.mono ?_; rintro e w3 ⟨g3, rfl, hg3, hr3, hb3⟩; (have HR3 := Lib.hid hr3); (have HB3 := Lib.hid hb3); (have HG3 := Lib.hid hg3); (obtain ⟨hm3, hs3⟩ := HS3.out w1 w2 w3 HT1.out HB2.out hb3); (clear hr3 hg3))
  refine hKq.out _ _ ?_ (fun hHeld => ?_)
  · exact hs3
  clear hKq Kq
  (try simp only [Act.put, tC, tD, tE])
  refine wpAnyH_ready (rs := [16]) (by kernel_rfl) (by simp) ?_
  refine AllReadyH.cons (o := ⟨none, .mapUpdate 223 (.tmp 30) (.tmp 31) (.tmp 42), 0, "tables.go:85", #[⟨3, .data⟩, ⟨4, .data⟩, ⟨15, .data⟩, ⟨15, .chain⟩, ⟨0, .phase⟩, ⟨1, .phase⟩, ⟨2, .phase⟩, ⟨3, .phase⟩, ⟨4, .phase⟩, ⟨5, .phase⟩, ⟨6, .phase⟩, ⟨7, .phase⟩, ⟨8, .phase⟩, ⟨9, .phase⟩, ⟨10, .phase⟩, ⟨11, .phase⟩, ⟨12, .phase⟩, ⟨13, .phase⟩, ⟨14, .phase⟩, ⟨15, .phase⟩], none⟩) rfl (fun Kq hKq => ?_) AllReadyH.nil
  (obtain ⟨w4, hrun, hm4, hg4⟩ := hm3.put hn9 ht9 (.slice (some ⟨g3, 0, none⟩) N N)); go_simp
  refine hKq.out _ _ ?_ (fun hHeld => ?_)
  · exact HS4.out w1 w2 w3 w4 _ HT1.out HB2.out HB3.out hm4 hg4
  clear hKq Kq
  (try simp only [Act.put, tC, tD, tE])
  refine wpAnyH_done (by kernel_rfl) ?_ _
  have HM4 := Lib.hid hm4; have HG4 := Lib.hid hg4
  clear hm4 hg4 hHeld hrun hm3 hs3 ht1
  go_wp2_with fail
  go_ret
  refine ⟨rfl, ?_⟩
  have H := HH.out
  have hog := HOG.out; have hm := HM.out; have hF := HF0.out
  have t1 : Turns (fun x => x = g ∨ x = mb) w1 w1 := Turns.refl _ _
  have t01 : Turns (fun x => x = g) w w1 := (Turns.refl (fun x => x = g) w).drew.trans HT1.out (fun _ _ e => e)
  have b13 : Below w1.heap.size w1 w3 := HB2.out.trans (HB3.out.mono HB2.out.size)
  have g34 := grown_turns HG4.out
  have t14 : Turns (fun x => some mb = some x) w1 w4 := (Turns.of_below b13).trans g34 (fun _ _ e => e)
  have t24 : Turns (fun x => some mb = some x) w2 w4 := (Turns.of_below HB3.out).trans g34 (fun _ _ e => e)
  have t04 : Turns (fun x => x = g ∨ x = mb) w w4 := (t01.mono (fun _ _ e => .inl e)).trans t14 (fun _ _ e => .inr (by simpa using e.symm))
  have s01 := t01.size; have s12 := HB2.out.size; have s23 := HB3.out.size; have s34 := g34.size
  have hg3 := HG3.out
  have htab := HTAB.out
  have hss := HSS.out
  have hg3l := (HR3.out.lt g3 rfl).2
  have hsl : ∀ (i : Nat) (v : Value) (x : Nat), ss[i]? = some v → v.ownBlock = some x → w1.heap.size ≤ x ∧ x < w2.heap.size := fun i v x hv e => htab.lt hv e
  let New : Nat → Role → Prop := fun x r => (x = g3 ∧ r = .tab tg) ∨ ∃ i v, ss[i]? = some v ∧ v.ownBlock = some x ∧ r = .q tg i
  have hfun : ∀ x r r', New x r → New x r' → r = r' := fun x r r' h h' => by
    rcases h with ⟨rfl, rfl⟩ | ⟨i, v, hv, e, rfl⟩
    · rcases h' with ⟨_, rfl⟩ | ⟨i, v, hv, e, rfl⟩
      · rfl
      · have := hsl i v x hv e; omega
    · rcases h' with ⟨rfl, rfl⟩ | ⟨j, v', hv', e', rfl⟩
      · have := hsl i v x hv e; omega
      · rw [htab.apart i j v v' x hv hv' e e']
  have hnew : ∀ x r, New x r → w.heap.size ≤ x := fun x r h => by
    rcases h with ⟨rfl, rfl⟩ | ⟨i, v, hv, e, rfl⟩
    · omega
    · have := hsl i v x hv e; omega
  obtain ⟨own', o1, o2, o3⟩ := own_new own New (fun x => ∃ i, own x = some (.q fr i)) w.heap.size hfun hnew (fun x r e => (H.fp x r e).2)
  have hkeep : ∀ x r, own x = some r → (∀ i, r ≠ .q fr i) → own' x = some r := fun x r e hr => o2 x r e (fun ⟨i, hi⟩ => hr i (by rw [e] at hi; simpa using hi))
  have hMt : grown M h N fr tg now tg = fresh now (reh h N E) := by unfold grown; rw [upd_same, hE]
  have hMf : grown M h N fr tg now fr = hollow (M fr) := by unfold grown; rw [upd_ne _ _ (by omega), upd_same]
  have hMo : ∀ b, b ≠ tg → b ≠ fr → grown M h N fr tg now b = M b := fun b e1 e2 => by unfold grown; rw [upd_ne _ _ e1, upd_ne _ _ e2]
  refine ⟨own', ⟨sb, mb, upd F tg (.slice (some ⟨g3, 0, none⟩) N N), upd (upd V fr (fun _ => nilS)) tg (fun i => (ss[i]?).getD nilS), ?_⟩, t04.mono (fun x _ e => by rcases e with rfl | rfl; exact ⟨_, hog⟩; exact ⟨_, H.om⟩), fun x r e => by
    rcases o3 x r e with h' | h'
    · exact .inl ⟨r, h'⟩
    · exact .inr (hnew x r h')⟩
  refine ⟨fun x r e => ?_, rfl, (t04.block sb hslt (by omega)).trans H.hc, hkeep sb _ H.os (by simp), HM4.out, hkeep mb _ H.om (by simp), fun b => ?_, fun b x e => ?_, fun b i hi => ?_, fun b i x hi e => ?_⟩
  · rcases o3 x r e with h' | h'
    · have := H.fp x r h'; omega
    · have hb := (H.fp sb _ H.os)
      rcases h' with ⟨rfl, rfl⟩ | ⟨i, v, hv, e', rfl⟩
      · omega
      · have := hsl i v x hv e'; omega
  · by_cases e1 : b = tg
    · subst e1
      rw [upd_same, upd_same, hMt, fresh_len, reh_len]
      exact (HR3.out.keep g34 (fun x e e2 => by simp [Value.ownBlock] at e; simp at e2; omega)).base (Nat.zero_le _)
    · rw [upd_ne _ _ e1, upd_ne _ _ e1]
      by_cases e2 : b = fr
      · subst e2
        rw [upd_same, hMf, hollow_len, hF, ← hm]
        exact HR1.out.keep t14 (fun x e e2 => by simp [Value.ownBlock] at e; simp at e2; omega)
      · rw [upd_ne _ _ e2, hMo b e1 e2]
        exact (H.ht b).keep t04 (fun x e e3 => by
          rcases e3 with rfl | rfl
          · exact H.ne (H.ot b x e) hog (by simp; exact e2) rfl
          · exact H.ne (H.ot b x e) H.om (by simp) rfl)
  · by_cases e1 : b = tg
    · subst e1
      rw [upd_same] at e
      exact o1 x _ (.inl ⟨by simpa [Value.ownBlock] using e.symm, rfl⟩)
    · rw [upd_ne _ _ e1] at e
      exact hkeep x _ (H.ot b x e) (by simp)
  · by_cases e1 : b = tg
    · subst e1
      rw [hMt, fresh_len, reh_len] at hi
      rw [upd_same, hMt, fresh_at _ _ (by rw [reh_len]; exact hi)]
      obtain ⟨v, hv, hr, _⟩ := htab.qs i (by rw [reh_len]; exact hi)
      rw [hv]
      exact (hr.keep t24 (fun x e e2 => by have := hsl i v x hv e; simp at e2; omega)).base (Nat.zero_le _)
    · rw [upd_ne _ _ e1]
      by_cases e2 : b = fr
      · subst e2
        rw [hMf, hollow_len] at hi
        rw [upd_same, hMf, hollow_at _ hi]
        exact row_nil _ _ _
      · rw [hMo b e1 e2] at hi ⊢
        rw [upd_ne _ _ e2]
        exact (H.hq b i hi).keep t04 (fun x e e3 => by
          rcases e3 with rfl | rfl
          · exact H.ne (H.oq b i x hi e) hog (by simp) rfl
          · exact H.ne (H.oq b i x hi e) H.om (by simp) rfl)
  · by_cases e1 : b = tg
    · subst e1
      rw [hMt, fresh_len, reh_len] at hi
      rw [upd_same] at e
      obtain ⟨v, hv, hr, _⟩ := htab.qs i (by rw [reh_len]; exact hi)
      rw [hv] at e
      exact o1 x _ (.inr ⟨i, v, hv, e, rfl⟩)
    · rw [upd_ne _ _ e1] at e
      by_cases e2 : b = fr
      · subst e2
        rw [upd_same] at e
        simp [Value.ownBlock] at e
      · rw [hMo b e1 e2] at hi
        rw [upd_ne _ _ e2] at e
        exact hkeep x _ (H.oq b i x hi e) (by simp; exact e2)
end
end Go.Proofs.YtpmafdggbeppcaaGreatDoor.S10
namespace Go.Proofs.YtpmafdggbeppcaaGreatDoor.S10
open Go.Proofs.YtpmafdggbeppcaaGreatDoor
open Go.RowKit
theorem map_at (L : List Bk) {i : Nat} (h : i < L.length) : (L.map Bk.q)[i]! = L[i]!.q := by
  rw [getElem!_pos _ i (by rw [List.length_map]; exact h), getElem!_pos _ i h]
  simp
theorem cum_le (Ls : List (List Ent)) : ∀ k, k ≤ Ls.length → cum Ls k ≤ Ls.flatten.length := fun k hk => by
  unfold cum
  have h1 : Ls.flatten = (Ls.take k).flatten ++ (Ls.drop k).flatten := by rw [← List.flatten_append, List.take_append_drop]
  rw [h1, List.length_append]
  omega
end Go.Proofs.YtpmafdggbeppcaaGreatDoor.S10
