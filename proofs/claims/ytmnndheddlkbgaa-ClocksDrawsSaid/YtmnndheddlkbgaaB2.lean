/- ClocksDraws. -/
import Derived.Test.YtmnndheddlkbgaaB1
namespace Go.Proofs.Ytmnndheddlkbgaa
open Go.RowKit

theorem brt_le (x most : Nat) : brt x most ≤ most := by
  unfold brt
  have := Nat.mod_lt x (show 0 < most + 1 by omega)
  omega
theorem brt_same {x most : Nat} (h : x ≤ most) : brt x most = x := Nat.mod_eq_of_lt (by omega)
theorem drop_cons {L : List Nat} {k : Nat} (h : k < L.length) : L.drop k = L[k]! :: L.drop (k + 1) := by
  rw [List.drop_eq_getElem_cons h, getElem!_pos L k h]
theorem Rd.drop {w : World} {base : Nat} {A : Option Addr} {D : List Nat} (h : Rd w base A D) (k : Nat) (hk : k < D.length) : ∃ g o, A = some ⟨g, o, none⟩ ∧ Rd w base (some ⟨g, o + k, none⟩) (D.drop k) := by
  obtain ⟨g, o, e, hg, hl⟩ := h (by omega)
  refine ⟨g, o, e, fun _ => ⟨g, o + k, rfl, hg, fun i hi => ?_⟩⟩
  rw [List.length_drop] at hi
  have := hl (k + i) (by omega)
  rw [show o + (k + i) = o + k + i by omega] at this
  rw [this, getElem!_pos D (k + i) (by omega), getElem!_pos (D.drop k) i (by rw [List.length_drop]; omega), List.getElem_drop]
set_option maxHeartbeats 4000000 in
set_option maxRecDepth 100000 in
theorem law_draws (A : Option Addr) (c later most : Nat) (L : List Nat) (hc : L.length ≤ c) (hc2 : c ≤ 9223372036854775807) (hlt : later < 256) (hmo : most ≤ 18446744073709551615) (hL : ∀ d ∈ L, d ≤ 18446744073709551615) (hm : L.length ≤ 300) (w : World) (hr : Rd w w.heap.size A L) :
    Calls Try.prog 6 #[.slice A L.length c, .int .u8 later, .int .u64 most] w fun e w' => e = .returned (.bool true) ∧ Below w.heap.size w w' := by
  have ql := lives_any
  obtain ⟨N, hN, hNl⟩ : ∃ N, N = L.length - min later L.length ∧ N ≤ L.length := ⟨_, rfl, by omega⟩
  have hlN : (L.take N).length = N := by rw [List.length_take]; omega
  have qn := new_any (w := w) (A := A) (D := L.take N) c most (by omega) hc2 hmo (hr.take N) (Nat.le_refl _) (fun d hd => hL d (List.mem_of_mem_take hd))
  rw [List.take_of_length_le (by omega : (L.take N).length ≤ 65536), hlN] at qn
  have QL := Lib.hid ql; have QN := Lib.hid qn; have HLL := Lib.hid hL; have HR := Lib.hid hr; have HN := Lib.hid hN; have HLN := Lib.hid hlN
  clear ql qn hL hr hN hlN
  go_enter Try.func6, Try.ntmps6
  go_upto_region 3 with (fail)
  go_cut [7] from 15 to 22 (fun s wx => s = .int .i64 (N : Nat) ∧ w = wx)
  case first =>
    by_cases hle : later ≤ L.length
    · go_wp2_with fail
      go_meet
      refine ⟨?_, rfl⟩
      have := HN.out
      rw [Nat.min_eq_left hle] at this
      show Value.int _ _ = _
      congr 1
      omega
    · go_wp2_with fail
      go_meet
      refine ⟨?_, rfl⟩
      have := HN.out
      rw [Nat.min_eq_right (by omega)] at this
      show Value.int _ _ = _
      congr 1
      omega
  case rest =>
    obtain ⟨rfl, rfl⟩ := hcut
    go_wp2_with fail
    refine QN.out.mono ?_
    rintro e w1 hm1
    obtain ⟨B, rfl, hB, o1, b1⟩ := hm1.own
    have hlf := own_left o1
    rw [HLN.out] at hlf
    have O1 := Lib.hid o1; have B1 := Lib.hid b1; have HB := Lib.hid hB; have HLF := Lib.hid hlf
    clear hm1 o1 b1 hB hlf
    go_wp2_with fail
    refine HLF.out.mono ?_
    rintro e w2 ⟨rfl, rfl⟩
    go_upto_region 7 with (fail)
    have hmore : ∀ A', Rd w1 w1.heap.size A' (L.drop N) → Calls Try.prog 14 #[Pt B, .slice A' (L.length - N) (c - N)] w1 fun e w' => e = .returned (.tuple #[]) ∧ Own w' w.heap.size B 0 most L ∧ Below w.heap.size w w' := fun A' hr' => by
      have h := own_more O1.out (E := L.drop N) (c - N) (by rw [List.length_drop]; omega) (by omega) hr' (fun d hd => HLL.out d (List.mem_of_mem_drop hd))
      rw [List.length_drop, HLN.out, List.take_of_length_le (l := L.drop N) (i := 65536 - N) (by rw [List.length_drop]; omega), List.take_append_drop] at h
      exact h.mono fun e w' ⟨h1, h2, h3⟩ => ⟨h1, h2, B1.out.trans h3⟩
    have HMO := Lib.hid hmore
    have hrd := HR.out.below B1.out (Nat.le_refl _)
    have HRD := Lib.hid (hrd.more B1.out.size)
    clear hmore hrd
    go_cut [] from 32 to 36 (fun wx => Own wx w.heap.size B 0 most L ∧ Below w.heap.size w wx)
    case first =>
      by_cases hNL : N = L.length
      · have hmz : ∀ A' c', c' ≤ 9223372036854775807 → Calls Try.prog 14 #[Pt B, .slice A' 0 c'] w1 fun e w' => e = .returned (.tuple #[]) ∧ Own w' w.heap.size B 0 most L ∧ Below w.heap.size w w' := fun A' c' hc' => by
          have h := own_more O1.out (A := A') (b2 := 0) (E := []) c' (Nat.zero_le _) hc' Rd.nil (by simp)
          rw [hNL] at h
          simp only [List.take_nil, List.append_nil, List.take_length, List.length_nil] at h
          exact h.mono fun e w' ⟨h1, h2, h3⟩ => ⟨h1, h2, B1.out.trans h3⟩
        have HMZ := Lib.hid hmz
        clear hmz
        subst hNL
        by_cases hcl : c = L.length
        · subst hcl
          go_wp2_with fail
          refine (HMZ.out _ _ (by omega)).mono ?_
          rintro e w3 ⟨rfl, o3, b3⟩
          have O3 := Lib.hid o3; have B3 := Lib.hid b3; clear o3 b3
          go_wp2_with fail
          go_meet
          exact ⟨O3.out, B3.out⟩
        · go_wp2_with fail
          refine (HMZ.out _ _ (by omega)).mono ?_
          rintro e w3 ⟨rfl, o3, b3⟩
          have O3 := Lib.hid o3; have B3 := Lib.hid b3; clear o3 b3
          go_wp2_with fail
          go_meet
          exact ⟨O3.out, B3.out⟩
      · obtain ⟨g, o, rfl, hrd⟩ := HRD.out.drop N (by omega)
        have h := HMO.out _ hrd
        have HH := Lib.hid h
        have hcN : ¬ c = N := by omega
        clear h hrd
        go_wp2_with fail
        refine HH.out.mono ?_
        rintro e w3 ⟨rfl, o3, b3⟩
        have O3 := Lib.hid o3; have B3 := Lib.hid b3; clear o3 b3
        go_wp2_with fail
        go_meet
        exact ⟨O3.out, B3.out⟩
    case rest =>
      obtain ⟨o3, b3⟩ := hcut
      have O3 := Lib.hid o3; have B3 := Lib.hid b3
      clear o3 b3
      go_wp2_with fail
      go_loopg [9] L.length (fun q s9 wx => ∃ k : Nat, k ≤ L.length ∧ q = L.length - k ∧ s9 = .int .i64 k ∧ Own wx w.heap.size B 0 most (L.drop k) ∧ Below w.heap.size w wx)
      case atStart => exact ⟨0, by omega, rfl, rfl, by rw [List.drop_zero]; exact O3.out, B3.out⟩
      case round =>
        obtain ⟨k, hk, rfl, rfl, hown, hb⟩ := hrel
        by_cases hkn : k < L.length
        · obtain ⟨g, o, rfl, hg, hl⟩ := (HR.out.below hb (Nat.le_refl _)) (by omega)
          have d0 := hl k hkn
          unfold uv at d0
          have hd := HLL.out _ (getElem!_mem' hkn)
          have hlf := own_left hown
          rw [show ((L.drop k).length : Int) = (L.length : Int) - (k : Int) by rw [List.length_drop]; omega] at hlf
          rw [drop_cons hkn] at hown
          have hdr := own_draw hown
          generalize L[k]! = d at *
          have hbl := brt_le d most
          have HDR := Lib.hid hdr; have HLF2 := Lib.hid hlf; have HB2 := Lib.hid hb
          clear hl hown hdr hlf hb
          have ht0 : ((L.length : Int) - (k : Int) != (L.length : Int) - (k : Int)) = false := by simp
          go_wp2_with fail
          refine HLF2.out.mono ?_
          rintro e w4 ⟨rfl, rfl⟩
          go_wp2_with fail
          refine HDR.out.mono ?_
          rintro e w5 ⟨rfl, o5, b5⟩
          have d5 := (b5.cell (p := ⟨g, o + k, none⟩) hg).trans d0
          have hb5 := HB2.out.trans b5
          have O5 := Lib.hid o5; have B5 := Lib.hid hb5
          clear o5 b5 hb5 d0
          by_cases hdm : d ≤ most
          · rw [brt_same hdm] at hbl ⊢
            have t1 : decide (most < d) = false := by simp; omega
            have t2 : decide (d ≤ most) = true := by simpa using hdm
            have t3 : ((d : Int) != (d : Int)) = false := by simp
            by_cases hmx : most = 18446744073709551615
            · have hw : IntKind.u64.wrap ((most : Int) + 1) = 0 := by rw [hmx]; rfl
              have hbig : 18446744073709551615 < (most : Int) + 1 := by omega
              clear hmx hdm
              go_wp2_with fail
              go_roundg (L.length - (k + 1))
              case measure => omega
              case rel => exact ⟨k + 1, by omega, rfl, by go_num, O5.out, B5.out⟩
            · have hrem : (d : Int) % ((most : Int) + 1) = (d : Int) := Int.emod_eq_of_lt (by omega) (by omega)
              have t4 : ((most : Int) + 1 != 0) = true := by simp; omega
              have hsm : (most : Int) + 1 ≤ 18446744073709551615 := by omega
              clear hmx hdm
              go_wp2_with fail
              go_roundg (L.length - (k + 1))
              case measure => omega
              case rel => exact ⟨k + 1, by omega, rfl, by go_num, O5.out, B5.out⟩
          · have hrem : (d : Int) % ((most : Int) + 1) = ((brt d most : Nat) : Int) := by unfold brt; rw [Int.natCast_emod]; rfl
            have t1 : decide (most < brt d most) = false := by simp; omega
            have t2 : decide (d ≤ most) = false := by simp; omega
            have t3 : (((brt d most : Nat) : Int) != ((brt d most : Nat) : Int)) = false := by simp
            have t4 : ((most : Int) + 1 != 0) = true := by simp; omega
            have hsm : (most : Int) + 1 ≤ 18446744073709551615 := by omega
            clear hdm
            generalize brt d most = y at *
            go_wp2_with fail
            go_roundg (L.length - (k + 1))
            case measure => omega
            case rel => exact ⟨k + 1, by omega, rfl, by go_num, O5.out, B5.out⟩
        · obtain rfl : k = L.length := by omega
          rw [List.drop_length] at hown
          have hlf := own_left hown
          rw [show ((([] : List Nat).length : Nat) : Int) = 0 from rfl] at hlf
          have hdn := own_draw_none hown
          have HLF2 := Lib.hid hlf; have HDN := Lib.hid hdn; have HB2 := Lib.hid hb
          clear hlf hdn hown hb
          go_wp2_with fail
          refine HLF2.out.mono ?_
          rintro e w4 ⟨rfl, rfl⟩
          go_wp2_with fail
          refine HDN.out.mono ?_
          rintro e w4 ⟨rfl, rfl⟩
          go_wp2_with fail
          refine HLF2.out.mono ?_
          rintro e w4 ⟨rfl, rfl⟩
          go_wp2_with fail
          refine (QL.out _).mono ?_
          rintro e w8 ⟨rfl, b8⟩
          have hb8 := HB2.out.trans (b8.mono HB2.out.size)
          have HB8 := Lib.hid hb8
          clear b8 hb8
          go_wp2_with fail
          go_ret
          exact ⟨rfl, HB8.out⟩
theorem law_draws_big (p : Option Addr) (m c later most : Nat) (hm : m ≤ 9223372036854775807) (hbig : 300 < m) (w : World) :
    Calls Try.prog 6 #[.slice p m c, .int .u8 later, .int .u64 most] w fun e w' => e = .returned (.bool true) ∧ Below w.heap.size w w' := by
  have ql := lives_any
  have QL := Lib.hid ql
  clear ql
  have g1 : decide ((300 : Int) < (m : Int)) = true := by simp; omega
  go_enter Try.func6, Try.ntmps6
  go_wp2_with fail
  refine (QL.out _).mono ?_
  rintro e w2 ⟨rfl, b2⟩
  have B2 := Lib.hid b2; clear b2
  go_wp2_with fail
  go_ret
  exact ⟨rfl, B2.out⟩
end Go.Proofs.Ytmnndheddlkbgaa
