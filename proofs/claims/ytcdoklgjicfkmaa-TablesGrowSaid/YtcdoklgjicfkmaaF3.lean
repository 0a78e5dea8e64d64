/- The document's Rehash and Placed. -/
import Derived.Test.YtcdoklgjicfkmaaF2
namespace Go.Proofs.Ytcdoklgjicfkmaa
open Go.RowKit

theorem reh_step (h : Nat → Nat) (k : Nat) (E : List Ent) : reh h (k + 1) E = reh h k E ++ [bk h k E] := by
  unfold reh
  rw [List.range_succ, List.map_append]; rfl
theorem take_el {E : List Ent} {m : Nat} (h : m < E.length) : E.take (m + 1) = E.take m ++ [el E m] := take_snoc h
set_option maxHeartbeats 4000000 in
set_option maxRecDepth 20000 in
theorem rrehash_any {w : World} {base n c : Nat} {b : Int} {A : Option Addr} {Ls : List (List Ent)} (h : Nat → Nat)
    (hs : ∀ w, Calls Try.prog 49 #[.int .i64 b] w fun e w' => e = .returned (.int .i64 (n : Nat)) ∧ w = w')
    (hh : 0 < n → ∀ (k : Nat) w, k < 4294967296 → Calls Try.prog 50 #[.int .u32 k, .int .i64 b] w fun e w' => e = .returned (.int .i64 (h k : Nat)) ∧ w = w')
    (hn : n ≤ 256) (hq : Qs w base A Ls) (hbase : base ≤ w.heap.size) (hc : Ls.length ≤ c) (hc9 : c ≤ 9223372036854775807) (hkeys : Keys Ls.flatten) (hlen : Ls.length ≤ 1000000) (hlen2 : Ls.flatten.length ≤ 100000) :
    Calls Try.prog 27 #[.slice A Ls.length c, .int .i64 b] w fun e w' => ∃ s ss, e = .returned s ∧ Tab w' w.heap.size s ss (reh h n Ls.flatten) ∧ Below w.heap.size w w' := by
  have HS := Lib.hid hs; have HH := Lib.hid hh; have HQ := Lib.hid hq; have HK := Lib.hid hkeys; have HBS := Lib.hid hbase; have HL2 := Lib.hid hlen2
  clear hs hh hq hkeys hbase hlen2
  obtain ⟨N, hN⟩ : ∃ N, N = Ls.length := ⟨_, rfl⟩
  rw [← hN] at hc hlen ⊢
  have HN := Lib.hid hN
  clear hN
  obtain ⟨E, hE⟩ : ∃ E, E = Ls.flatten := ⟨_, rfl⟩
  have HE := Lib.hid hE
  rw [← hE] at HL2 ⊢
  clear hE
  go_enter Try.func27, Try.ntmps27
  go_wp2_with fail
  go_loopg [5, 6] n (fun q s5 s6 wx => ∃ (k : Nat) (ss : List Value), k ≤ n ∧ q = n - k ∧ s6 = .int .i64 (k : Int) ∧ Tab wx w.heap.size s5 ss (reh h k E) ∧ Below w.heap.size w wx)
  case atStart => exact ⟨0, [], by omega, rfl, rfl, tab_nil _ _, Below.refl _ _⟩
  case round =>
    obtain ⟨k, ss, hk, rfl, rfl, ht, hb⟩ := hrel
    have HT := Lib.hid ht; have HB := Lib.hid hb
    clear ht hb
    obtain ⟨wo, rfl⟩ : ∃ wo : World, wo = wr := ⟨_, rfl⟩
    by_cases hkn : k < n
    · have HHH := Lib.hid (HH.out (by omega))
      go_wp2_with (go_at_call 49; refine (HS.out _).mono ?_; rintro e w' ⟨rfl, rfl⟩)
      go_loopg [7, 8] N (fun q s7 s8 wx => ∃ i : Nat, i ≤ N ∧ q = N - i ∧ s8 = .int .i64 (i : Int) ∧ RowE wx wo.heap.size s7 (bk h k (E.take (cum Ls i))) ∧ (s7 = .slice none 0 0 ∨ 0 < (bk h k (E.take (cum Ls i))).length) ∧ Below wo.heap.size wo wx)
      case atStart => exact ⟨0, by omega, rfl, rfl, row_nil _ _ _, Or.inl rfl, Below.refl _ _⟩
      case round =>
        obtain ⟨i, hi, rfl, rfl, hrow, hnn, hbo⟩ := hrel
        have HR := Lib.hid hrow; have HNN := Lib.hid hnn; have HBO := Lib.hid hbo
        clear hrow hnn hbo
        obtain ⟨wm, rfl⟩ : ∃ wm : World, wm = wr := ⟨_, rfl⟩
        by_cases hiN : i < N
        · have hil : i < Ls.length := by have := HN.out; omega
          have hbw : Below w.heap.size w wm := HB.out.trans (HBO.out.mono HB.out.size)
          have HBW := Lib.hid hbw
          obtain ⟨g, o, A', c', rfl, hg, cq0, hc', hc9', hrd⟩ := HQ.out.at hil
          have HRD := Lib.hid hrd
          have HKI := Lib.hid (fun j => keys_in HK.out hil (j := j))
          have HCS := Lib.hid (cum_succ hil)
          have hca : ∀ j, j < Ls[i]!.length → el Ls.flatten (cum Ls i + j) = el Ls[i]! j := fun j hj => cum_at hil hj
          have hcl : ∀ j, j < Ls[i]!.length → cum Ls i + j < Ls.flatten.length := fun j hj => cum_mono hil hj
          rw [← HE.out] at hca hcl
          have HCA := Lib.hid hca; have HCL := Lib.hid hcl
          obtain ⟨D, hD⟩ : ∃ D, D = Ls[i]! := ⟨_, rfl⟩
          rw [← hD] at cq0 hc' HRD HKI HCS HCA HCL
          obtain ⟨M, hM⟩ : ∃ M, M = D.length := ⟨_, rfl⟩
          rw [← hM] at cq0 hc' HKI HCS HCA HCL
          have HM := Lib.hid hM
          clear hM hD hrd hbw hca hcl
          have hgw : g < w.heap.size := by have := HBS.out; omega
          have cq : wm.cell? ⟨g, o + i, none⟩ = some (.slice A' M c') := (HBW.out.cell (p := ⟨g, o + i, none⟩) hgw).trans cq0
          have CQ0 := Lib.hid cq0
          clear cq0
          go_wp2_with fail
          go_loopg [7, 9] M (fun q s7 s9 wx => ∃ j : Nat, j ≤ M ∧ q = M - j ∧ s9 = .int .i64 (j : Int) ∧ RowE wx wo.heap.size s7 (bk h k (E.take (cum Ls i + j))) ∧ (s7 = .slice none 0 0 ∨ 0 < (bk h k (E.take (cum Ls i + j))).length) ∧ Below wo.heap.size wo wx ∧ Below w.heap.size w wx)
          case atStart => exact ⟨0, by omega, rfl, rfl, HR.out, HNN.out, HBO.out, HBW.out⟩
          case round =>
            obtain ⟨j, hj, rfl, rfl, hrow, hnn, hbo, hbx⟩ := hrel
            have HR3 := Lib.hid hrow; have HNN3 := Lib.hid hnn; have HBO3 := Lib.hid hbo; have HBX := Lib.hid hbx
            clear hrow hnn hbo hbx
            have cq3 : wr.cell? ⟨g, o + i, none⟩ = some (.slice A' M c') := (HBX.out.cell (p := ⟨g, o + i, none⟩) hgw).trans CQ0.out
            by_cases hjm : j < M
            · obtain ⟨kk, hkk, hk2⟩ := HKI.out j hjm
              obtain ⟨g1, o1, rfl, hg1, c0, c1, c2⟩ := (HRD.out.below HBX.out HBS.out).key (i := j) (by have := HM.out; omega) hkk
              have hca := HCA.out j hjm
              have hcl := HCL.out j hjm
              have hte := take_el (E := E) (m := cum Ls i + j) hcl
              rw [hca] at hte
              have hle := bk_le h k (E.take (cum Ls i + j))
              rw [List.length_take] at hle
              have hL2 := HL2.out
              have hbs := bk_snoc h k (E.take (cum Ls i + j)) (el D j)
              rw [← hte] at hbs
              obtain ⟨F, hF⟩ : ∃ F, F = bk h k (E.take (cum Ls i + j)) := ⟨_, rfl⟩
              rw [← hF] at hle hbs
              have HRF : Hid (RowE wr wo.heap.size u7 F) := Lib.hid (by rw [hF]; exact HR3.out)
              have HNF : Hid (u7 = .slice none 0 0 ∨ 0 < F.length) := Lib.hid (by rw [hF]; exact HNN3.out)
              obtain ⟨d, hd⟩ : ∃ d, d = el D j := ⟨_, rfl⟩
              rw [← hd] at c0 c2 hkk hbs
              rw [hkk, Int.toNat_natCast] at hbs
              have HFL := Lib.hid (show F.length + 1 ≤ 1000000 by omega)
              have HBK := Lib.hid hbs
              have HKK := Lib.hid hkk
              have hgr : g < wr.heap.size := by have := HBX.out.size; omega
              clear hca hcl hte hle hL2 hbs hF hd hkk
              by_cases heq : h kk = k
              · have he : ((h kk : Nat) : Int) = (k : Int) := by omega
                go_wp2_with (first
                  | (go_at_call 50; refine (HHH.out kk _ hk2).mono ?_; rintro e w' ⟨rfl, rfl⟩)
                  | (at_builtin; refine wpList_append_row layO rfl _ _ rfl rfl (HRF.out.alloc _) (flat_one' _) (by have := HBO3.out.size; simp; omega) 1 rfl (rd_one wr ⟨d.t, (kk : Int), d.z⟩ 95) rfl (flat_one' _) HFL.out ?_; intro v2 w2 hr2 ht2 ho2; (have HR2 := Lib.hid hr2); (have HT2 := Lib.hid ht2); (clear hr2 ht2 ho2)))
                go_roundg (M - (j + 1))
                case measure => omega
                case rel =>
                  have hdd : (⟨d.t, (kk : Int), d.z⟩ : Ent) = d := by rw [← HKK.out]
                  have hba := HBO3.out.alloc HBO3.out.size (.cells #[.int .i64 d.t, .int .u32 (kk : Int), .int .u64 d.z] 95)
                  have hb2 := HT2.out.below (B := wo.heap.size) (by have := hba.size; exact this) (fun j hj e => by have := (HRF.out.lt j e).1; omega)
                  have hb3 := hba.trans hb2
                  have hbk := HBK.out
                  rw [if_pos heq] at hbk
                  refine ⟨j + 1, by omega, rfl, by go_num, ?_, ?_, hb3, HB.out.trans (hb3.mono HB.out.size)⟩
                  · rw [show cum Ls i + (j + 1) = cum Ls i + j + 1 by omega, hbk]
                    have h2 := HR2.out
                    rw [hdd] at h2
                    show Row _ _ 3 _ (F ++ [d]).length (flat (F ++ [d]))
                    rw [flat_app, List.length_append, List.length_singleton]
                    exact h2
                  · rw [show cum Ls i + (j + 1) = cum Ls i + j + 1 by omega, hbk]
                    exact Or.inr (by simp)
              · have he : (((h kk : Nat) : Int) == (k : Int)) = false := by rw [beq_eq_false_iff_ne]; omega
                go_wp2_with (go_at_call 50; refine (HHH.out kk _ hk2).mono ?_; rintro e w' ⟨rfl, rfl⟩)
                go_roundg (M - (j + 1))
                case measure => omega
                case rel =>
                  have hbk := HBK.out
                  rw [if_neg heq] at hbk
                  refine ⟨j + 1, by omega, rfl, by go_num, ?_, ?_, HBO3.out, HBX.out⟩
                  · rw [show cum Ls i + (j + 1) = cum Ls i + j + 1 by omega, hbk]
                    exact HRF.out
                  · rw [show cum Ls i + (j + 1) = cum Ls i + j + 1 by omega, hbk]
                    exact HNF.out
            · obtain rfl : j = M := by omega
              go_wp2_with fail
              go_roundg (N - (i + 1))
              case measure => omega
              case rel =>
                refine ⟨i + 1, by omega, rfl, by go_num, ?_, ?_, HBO3.out⟩
                · rw [HCS.out]; exact HR3.out
                · rw [HCS.out]; exact HNN3.out
        · obtain rfl : i = N := by omega
          have hall : E.take (cum Ls i) = E := by
            rw [HN.out, cum_all, ← HE.out, List.take_length]
          have HRF : Hid (RowE wm wo.heap.size u7 (bk h k E)) := Lib.hid (by have := HR.out; rwa [hall] at this)
          have HNF : Hid (u7 = .slice none 0 0 ∨ 0 < (bk h k E).length) := Lib.hid (by have := HNN.out; rwa [hall] at this)
          obtain ⟨A1, c1, rfl, _, _⟩ := HRF.out.shape
          obtain ⟨m1, hm1⟩ : ∃ m1, m1 = (bk h k E).length := ⟨_, rfl⟩
          rw [← hm1]
          have HM1 := Lib.hid hm1
          have htl : (reh h k E).length = k := reh_len h k E
          have HTL := Lib.hid htl
          have hL2 := HL2.out
          have HTB : Hid (Tab wm w.heap.size u5 ss (reh h k E)) := Lib.hid (HT.out.new HBO.out)
          clear hm1 hall htl
          go_wp2_with (at_builtin; refine wpList_append_row layR rfl _ _ rfl rfl (HTB.out.row.alloc _) HT.out.one (by have := HB.out.size; have := HBO.out.size; simp; omega) 1 rfl (rd_one1 wm (.slice A1 m1 c1) 83) rfl (fun u hu => by simp at hu; rw [hu]; rfl) (by have := HTL.out; omega) ?_; intro v2 w2 hr2 ht2 ho2; (have HR2 := Lib.hid hr2); (have HT2 := Lib.hid ht2); (have HO2 := Lib.hid ho2); (clear hr2 ht2 ho2))
          go_roundg (n - (k + 1))
          case measure => omega
          case rel =>
            have hba := HBO.out.alloc HBO.out.size (.cells #[.slice A1 m1 c1] 83)
            have hrow : RowE wm wo.heap.size (.slice A1 m1 c1) (bk h k E) := by rw [HM1.out]; exact HRF.out
            refine ⟨k + 1, ss ++ [.slice A1 m1 c1], by omega, rfl, by go_num, ?_, ?_⟩
            · rw [reh_step]
              exact HT.out.push HB.out.size hba (hrow.alloc _) ((cb_of hrow (by rw [HM1.out]; exact HNF.out)).turn ((Turns.refl (fun _ => False) _).alloc _) (fun _ _ e => e)) (by have := HR2.out; exact this) HT2.out HO2.out
            · exact HB.out.trans ((hba.mono HB.out.size).trans (HT2.out.below (by have := HB.out.size; have := hba.size; omega) (fun j hj e => by have := (HT.out.row.lt j e).1; omega)))
    · obtain rfl : k = n := by omega
      go_wp2_with (go_at_call 49; refine (HS.out _).mono ?_; rintro e w' ⟨rfl, rfl⟩)
      go_ret
      exact ⟨_, ss, rfl, HT.out, HB.out⟩
end Go.Proofs.Ytcdoklgjicfkmaa
