/- NotesSince. -/
import Derived.Test.YtoefgfolokcdhaaDoorF1
import Derived.Test.YtoefgfolokcdhaaDoorE2
import Derived.Deep.RegionHeld3
namespace Go.Proofs.YtoefgfolokcdhaaDoor
open Go.RowKit

theorem blwN {B : Nat} {a w : World} (h : Below B a w) (n : Nat) : Below B a (w.drewN n) := h.trans ⟨rfl, rfl, rfl, Nat.le_refl _, fun _ _ => rfl⟩
theorem since_big (A : Option Addr) (n c : Nat) (u : Nat) (hn : 200 < n) (w : World) (hT : Tab w) : Calls Tryd.prog 5 #[.slice A n c, .int .u8 (u : Int)] w fun e w' => e = .returned (.bool true) ∧ Below w.heap.size w w' := by
  have hlv := lives_any w hT
  have h1 : (200 : Int) < (n : Int) := by omega
  go_enter Tryd.func5, Tryd.ntmps5
  go_wp2_with (go_at_call 7; refine hlv.mono ?_; rintro e w1 ⟨rfl, hb⟩)
  go_ret
  exact ⟨rfl, hb⟩
set_option maxHeartbeats 8000000 in
set_option maxRecDepth 100000 in
theorem law_since {A : Option Addr} {D : List Nt} (c : Nat) (u : Nat) (hu : u < 256) {w : World} (hT : Tab w) (hr : Rd w w.heap.size A (flat .u8 D)) (hks : ∀ d ∈ D, d.k < 256) (hlen : D.length ≤ 200) :
    Calls Tryd.prog 5 #[.slice A D.length c, .int .u8 (u : Int)] w fun e w' => e = .returned (.bool true) ∧ Below w.heap.size w w' := by
  have hnew := new_any w
  have HT := Lib.hid hT; have HR := Lib.hid hr; have HKS := Lib.hid hks; have HX0 : Hid (0 < w.heap.size) := Lib.hid hT.1
  clear hT hr hks
  obtain ⟨m, hm⟩ : ∃ m, m = D.length := ⟨_, rfl⟩
  rw [← hm] at hlen ⊢
  have HM := Lib.hid hm
  have h200 : ¬ (200 : Int) < (m : Int) := by omega
  have hwu : IntKind.i64.wrap (u : Int) = u := by rw [IntKind.wrap_i64]; omega
  clear hm
  go_enter Tryd.func5, Tryd.ntmps5
  go_upto_region 4 with (go_at_call 8; refine hnew.mono ?_; rintro e w1 ⟨rfl, h1, b1⟩)
  have htk : Tk w1 w.heap.size w.heap.size (.slice none 0 0) (.slice none 0 0) [] [] := ⟨h1, row_nil _ _ _, by simp [Value.ownBlock], by simp [Value.ownBlock]⟩
  have HTK0 := Lib.hid htk; have HB1 := Lib.hid b1
  clear htk h1 b1 hnew
  generalize hb0 : w.heap.size = b0 at *
  have HB0 := Lib.hid hb0
  clear hb0
  go_wp2_with fail
  go_loopg [6, 7, 8] m (fun y s6 s7 s8 wx => ∃ (k : Nat) (F : List Nt) (s v : Value) (cn : Nat), k ≤ m ∧ y = m - k ∧ s8 = .int .i64 (k : Int) ∧ s6 = v ∧ s7 = .int .i64 (cn : Int) ∧ F.length ≤ k ∧ cn ≤ F.length ∧ (∀ d ∈ F, d.k < 256) ∧ Rises F ∧ Tk wx b0 b0 s v F F ∧ Below b0 w wx)
  case atStart => exact ⟨0, [], _, _, 0, by omega, rfl, rfl, rfl, rfl, by simp, by simp, (fun d hd => by cases hd), rises_nil, HTK0.out, HB1.out⟩
  case round =>
    obtain ⟨k, F, s, v, cn, hk, rfl, rfl, hv6, rfl, hFk, hcn, hFK, hrs, htk, hb⟩ := hrel
    have hv7 := hv6.symm
    subst hv7
    obtain ⟨wo, rfl⟩ : ∃ wo : World, wo = wr := ⟨_, rfl⟩
    have hbs : b0 ≤ wo.heap.size := by have := htk.l.lt; have := htk.l.low; omega
    have HTK := Lib.hid htk; have HB := Lib.hid hb; have HBS := Lib.hid hbs; have HRS := Lib.hid hrs; have HCN := Lib.hid hcn
    have hF200 : F.length ≤ 200 := by omega
    have HFL := Lib.hid hF200
    have HFK0 := Lib.hid hFK
    have HFKk := Lib.hid hFk
    clear htk hb hFK HTK0 HB1 hF200 hrs hcn hFk hbs
    by_cases hkm : k < m
    · obtain ⟨g1, o1, rfl, hg1, hn1⟩ := HR.out.note (i := k) (by have := HM.out; omega)
      have hn1 : NtAt wo .u8 g1 (o1 + k * 7) D[k]! := by
        have e : ∀ j v, w.cell? ⟨g1, j, none⟩ = some v → wo.cell? ⟨g1, j, none⟩ = some v := fun j v h => (HB.out.cell (p := ⟨g1, j, none⟩) (by exact hg1)).trans h
        exact ⟨e _ _ hn1.c0, e _ _ hn1.c1, e _ _ hn1.c2, e _ _ hn1.c3, e _ _ hn1.c4, e _ _ hn1.c5, e _ _ hn1.c6⟩
      have hnk : D[k]!.k < 256 := HKS.out _ (by have := HM.out; rw [getElem!_pos D k (by omega)]; exact List.getElem_mem _)
      generalize hnn : D[k]! = n at *
      clear hnn
      obtain ⟨c0, c1, c2, c3, c4, c5, c6⟩ := hn1
      have hN1 : Ntc wo n g1 (o1 + k * 7) := ⟨c0, c1, c2, c3, c4, c5, c6⟩
      have hadd := add_any HTK.out.l HBS.out (HT.out.below HB.out HX0.out) n hnk (by have := HFL.out; omega)
      have hcnt := count_any HTK.out.l
      have HADD := Lib.hid hadd; have HCNT := Lib.hid hcnt; have HN1 := Lib.hid hN1; have HG1 := Lib.hid hg1; have HNK := Lib.hid hnk
      clear hadd hcnt hN1 hg1 hnk HR
      by_cases hku : k = u
      · subst hku
        by_cases hrf : refB F n = true
        · rw [(addD_yes hrf).1, (addD_yes hrf).2] at HADD
          go_upto_region 13 with (first
            | (go_at_call 12; refine (HCNT.out).mono ?_; rintro e w3 ⟨rfl, rfl⟩)
            | (go_at_call 9; refine HADD.out.mono ?_; rintro e w6 ⟨rfl, hl6⟩))
          have hb6 := hl6.step HTK.out.l HBS.out
          obtain ⟨s6, tk6⟩ := HTK.out.add hl6
          have HTK6 := Lib.hid tk6; have HB6 := Lib.hid hb6
          clear hl6 tk6 hb6 HADD
          have hF200 : F.length + 1 ≤ 1000000 := by have := HFL.out; omega
          have hlne : ((F.length : Int) == (F.length : Int) + 1) = false := by simp; omega
          go_wp2_with (first
            | (go_at_call 12; refine (count_any HTK6.out.l).mono ?_; rintro e w3 ⟨rfl, rfl⟩))
          go_roundg (m - (k + 1))
          case measure => omega
          case rel => exact ⟨k + 1, F, s6, v, F.length, by omega, rfl, by go_num, rfl, rfl, by have := HFKk.out; omega, Nat.le_refl _, HFK0.out, HRS.out, HTK6.out, HB.out.trans HB6.out⟩
        · have hrf : refB F n = false := by simpa using hrf
          rw [(addD_no hrf).1, (addD_no hrf).2] at HADD
          have hrs2 := HRS.out.add hrf
          have hfk2 : ∀ d ∈ F ++ [n], d.k < 256 := fun d hd => by
            rcases List.mem_append.1 hd with h | h
            · exact HFK0.out d h
            · simp at h; rw [h]; exact HNK.out
          have HRS2 := Lib.hid hrs2; have HFK2 := Lib.hid hfk2
          clear hrs2 hfk2
          go_upto_region 13 with (first
            | (go_at_call 12; refine (HCNT.out).mono ?_; rintro e w3 ⟨rfl, rfl⟩)
            | (go_at_call 9; refine HADD.out.mono ?_; rintro e w6 ⟨rfl, hl6⟩))
          have hb6 := hl6.step HTK.out.l HBS.out
          obtain ⟨s6, tk6⟩ := HTK.out.add hl6
          have hcnt2 : Calls Tryd.prog 12 #[Pt b0] w6 fun e w' => e = .returned (.int .i64 ((F.length : Int) + 1)) ∧ w6 = w' := by
            have := count_any tk6.l
            rw [List.length_append] at this
            exact this
          have hn6 : Ntc w6 n g1 (o1 + k * 7) := HN1.out.below hb6 HG1.out
          obtain ⟨n0, n1, n2, n3, n4, n5, n6⟩ := hn6
          have hbs6 : b0 ≤ w6.heap.size := by have := tk6.l.lt; have := tk6.l.low; omega
          have HTK6 := Lib.hid tk6; have HB6 := Lib.hid hb6; have HC2 := Lib.hid hcnt2; have HBS6 := Lib.hid hbs6
          clear hl6 tk6 hb6 hcnt2 HADD hbs6
          have hF200 : F.length + 1 ≤ 1000000 := by have := HFL.out; omega
          have HF2 := Lib.hid hF200
          go_wp2_with (first
            | (go_at_call 12; refine HC2.out.mono ?_; rintro e w3 ⟨rfl, rfl⟩)
            | (at_builtin; refine wpList_append_row (n := F.length) (cs := flat .u8 F) (v := v) (es := flat .u8 [n]) (m := 1) (b2 := w6.heap.size + 1) (A := some ⟨w6.heap.size, 0, none⟩) layP rfl _ _ rfl rfl (HTK6.out.t.new (below1 _ _)) (flat_one' _ _) (by have := HBS6.out; simp; omega) 1 rfl (rd_note w6 n) rfl (flat_one' _ _) HF2.out ?_; intro v2 w7 hr7 ht7 ho7; (have HR7 := Lib.hid hr7); (have HT7 := Lib.hid ht7); (have HO7 := Lib.hid ho7); (clear hr7 ht7 ho7)))
          have htk7 : Tk w7 b0 b0 s6 v2 (F ++ [n]) (F ++ [n]) := (HTK6.out.new (below1 _ _)).more HR7.out (by simp) (by rw [flat_app]) HT7.out (by
            rcases HO7.out with e | e
            · exact .inl e
            · exact .inr ⟨_, e, Nat.le_refl _⟩)
          have hb7 : Below b0 w w7 := HB.out.trans (HB6.out.trans ((((Below.refl _ _).alloc (Nat.le_refl _) _).mono HBS6.out).trans (HT7.out.below (by have := HBS6.out; simp; omega) (fun g hg e => by have := (HTK6.out.t.lt g e).1; omega))))
          have HTK7 := Lib.hid htk7; have HB7 := Lib.hid hb7
          clear htk7 hb7
          go_roundg (m - (k + 1))
          case measure => omega
          case rel => exact ⟨k + 1, F ++ [n], s6, v2, F.length, by omega, rfl, by go_num, rfl, rfl, by have := HFKk.out; rw [List.length_append]; simp; omega, by rw [List.length_append]; omega, HFK2.out, HRS2.out, HTK7.out, HB7.out⟩
      · have hkb : ((k : Int) == (u : Int)) = false := by simp; omega
        by_cases hrf : refB F n = true
        · rw [(addD_yes hrf).1, (addD_yes hrf).2] at HADD
          go_upto_region 13 with (first
            | (go_at_call 12; refine (HCNT.out).mono ?_; rintro e w3 ⟨rfl, rfl⟩)
            | (go_at_call 9; refine HADD.out.mono ?_; rintro e w6 ⟨rfl, hl6⟩))
          have hb6 := hl6.step HTK.out.l HBS.out
          obtain ⟨s6, tk6⟩ := HTK.out.add hl6
          have HTK6 := Lib.hid tk6; have HB6 := Lib.hid hb6
          clear hl6 tk6 hb6 HADD
          have hF200 : F.length + 1 ≤ 1000000 := by have := HFL.out; omega
          have hlne : ((F.length : Int) == (F.length : Int) + 1) = false := by simp; omega
          go_wp2_with (first
            | (go_at_call 12; refine (count_any HTK6.out.l).mono ?_; rintro e w3 ⟨rfl, rfl⟩))
          go_roundg (m - (k + 1))
          case measure => omega
          case rel => exact ⟨k + 1, F, s6, v, cn, by omega, rfl, by go_num, rfl, rfl, by have := HFKk.out; omega, HCN.out, HFK0.out, HRS.out, HTK6.out, HB.out.trans HB6.out⟩
        · have hrf : refB F n = false := by simpa using hrf
          rw [(addD_no hrf).1, (addD_no hrf).2] at HADD
          have hrs2 := HRS.out.add hrf
          have hfk2 : ∀ d ∈ F ++ [n], d.k < 256 := fun d hd => by
            rcases List.mem_append.1 hd with h | h
            · exact HFK0.out d h
            · simp at h; rw [h]; exact HNK.out
          have HRS2 := Lib.hid hrs2; have HFK2 := Lib.hid hfk2
          clear hrs2 hfk2
          go_upto_region 13 with (first
            | (go_at_call 12; refine (HCNT.out).mono ?_; rintro e w3 ⟨rfl, rfl⟩)
            | (go_at_call 9; refine HADD.out.mono ?_; rintro e w6 ⟨rfl, hl6⟩))
          have hb6 := hl6.step HTK.out.l HBS.out
          obtain ⟨s6, tk6⟩ := HTK.out.add hl6
          have hcnt2 : Calls Tryd.prog 12 #[Pt b0] w6 fun e w' => e = .returned (.int .i64 ((F.length : Int) + 1)) ∧ w6 = w' := by
            have := count_any tk6.l
            rw [List.length_append] at this
            exact this
          have hn6 : Ntc w6 n g1 (o1 + k * 7) := HN1.out.below hb6 HG1.out
          obtain ⟨n0, n1, n2, n3, n4, n5, n6⟩ := hn6
          have hbs6 : b0 ≤ w6.heap.size := by have := tk6.l.lt; have := tk6.l.low; omega
          have HTK6 := Lib.hid tk6; have HB6 := Lib.hid hb6; have HC2 := Lib.hid hcnt2; have HBS6 := Lib.hid hbs6
          clear hl6 tk6 hb6 hcnt2 HADD hbs6
          have hF200 : F.length + 1 ≤ 1000000 := by have := HFL.out; omega
          have HF2 := Lib.hid hF200
          go_wp2_with (first
            | (go_at_call 12; refine HC2.out.mono ?_; rintro e w3 ⟨rfl, rfl⟩)
            | (at_builtin; refine wpList_append_row (n := F.length) (cs := flat .u8 F) (v := v) (es := flat .u8 [n]) (m := 1) (b2 := w6.heap.size + 1) (A := some ⟨w6.heap.size, 0, none⟩) layP rfl _ _ rfl rfl (HTK6.out.t.new (below1 _ _)) (flat_one' _ _) (by have := HBS6.out; simp; omega) 1 rfl (rd_note w6 n) rfl (flat_one' _ _) HF2.out ?_; intro v2 w7 hr7 ht7 ho7; (have HR7 := Lib.hid hr7); (have HT7 := Lib.hid ht7); (have HO7 := Lib.hid ho7); (clear hr7 ht7 ho7)))
          have htk7 : Tk w7 b0 b0 s6 v2 (F ++ [n]) (F ++ [n]) := (HTK6.out.new (below1 _ _)).more HR7.out (by simp) (by rw [flat_app]) HT7.out (by
            rcases HO7.out with e | e
            · exact .inl e
            · exact .inr ⟨_, e, Nat.le_refl _⟩)
          have hb7 : Below b0 w w7 := HB.out.trans (HB6.out.trans ((((Below.refl _ _).alloc (Nat.le_refl _) _).mono HBS6.out).trans (HT7.out.below (by have := HBS6.out; simp; omega) (fun g hg e => by have := (HTK6.out.t.lt g e).1; omega))))
          have HTK7 := Lib.hid htk7; have HB7 := Lib.hid hb7
          clear htk7 hb7
          go_roundg (m - (k + 1))
          case measure => omega
          case rel => exact ⟨k + 1, F ++ [n], s6, v2, cn, by omega, rfl, by go_num, rfl, rfl, by have := HFKk.out; rw [List.length_append]; simp; omega, by rw [List.length_append]; have := HCN.out; omega, HFK2.out, HRS2.out, HTK7.out, HB7.out⟩
    · obtain rfl : k = m := by omega
      obtain ⟨Av, cv, hsv, hcv, hcv9⟩ := HTK.out.t.shape
      subst hsv
      clear hkm HR HKS HFK0
      obtain ⟨G, hG⟩ : ∃ G, G = F.drop cn := ⟨_, rfl⟩
      obtain ⟨mm, hmm⟩ : ∃ mm, mm = G.length := ⟨_, rfl⟩
      have hcn := HCN.out
      have hFL := HFL.out
      have hmk : mm = F.length - cn := by rw [hmm, hG, List.length_drop]
      have hfr : fromN F (cn : Int) = cn := by unfold fromN; omega
      have hall := all_any HTK.out.l (by omega)
      have hsince := fun W (b : Below wo.heap.size wo W) => since_any (HTK.out.l.new b) (by omega) (cn : Int)
      unfold Told at hsince
      rw [hfr] at hsince
      rw [← hG, ← hmm] at hsince
      have hgi : ∀ i, cn ≤ i → i < F.length → G[i - cn]! = F[i]! := fun i h1 h2 => by
        rw [hG, getElem!_pos _ (i - cn) (by rw [List.length_drop]; omega), getElem!_pos F i h2, List.getElem_drop]
        congr 1; omega
      have hwm : IntKind.i64.wrap ((F.length : Int) - (cn : Int)) = (mm : Int) := by rw [IntKind.wrap_i64]; omega
      have HALL := Lib.hid hall; have HSINCE := Lib.hid hsince; have HGI := Lib.hid hgi; have hGl := Lib.hid hmm.symm; have hGm := Lib.hid hmk
      clear hall hsince hgi hmm hmk hfr hG
      go_upto_region 19 with (first
        | (go_at_call 13; refine HALL.out.mono ?_; rintro e w8 ⟨A8, rfl, hr8, hb8⟩; (have HR8 := Lib.hid hr8); (have HB8 := Lib.hid hb8); (clear hr8 hb8))
        | (go_at_call 14; refine (HSINCE.out _ HB8.out).mono ?_; rintro e w9 ⟨A9, rfl, hr9, hb9⟩; (have HR9 := Lib.hid hr9); (have HB9 := Lib.hid hb9); (clear hr9 hb9)))
      have hb9 : Below wo.heap.size wo w9 := HB8.out.trans (HB9.out.mono HB8.out.size)
      have hra : Rd w9 w9.heap.size A8 (flat .u8 F) := (HR8.out.rd.below HB9.out (Nat.le_refl _)).more HB9.out.size
      have hrg : Rd w9 w9.heap.size A9 (flat .u8 G) := HR9.out.rd
      have hrt : Rd w9 w9.heap.size Av (flat .u8 F) := (HTK.out.t.rd.below hb9 (Nat.le_refl _)).more hb9.size
      have hbw : Below b0 w w9 := HB.out.trans (hb9.mono HBS.out)
      have HRA := Lib.hid hra; have HRG := Lib.hid hrg; have HRT := Lib.hid hrt; have HBW := Lib.hid hbw
      have HB0W : Hid (b0 ≤ w9.heap.size) := Lib.hid (Nat.le_trans HBS.out hb9.size)
      clear hb9 hra hrg hrt hbw HALL HSINCE HR8 HR9 HB8 HB9
      go_wp2_with fail
      go_loopg [13] F.length (fun y s13 wx => ∃ i : Nat, i ≤ F.length ∧ y = F.length - i ∧ s13 = .int .i64 (i : Int) ∧ Below w9.heap.size w9 wx)
      case atStart => exact ⟨0, by omega, rfl, rfl, Below.refl _ _⟩
      case round =>
        obtain ⟨i, hi, rfl, rfl, hbx⟩ := hrel
        have HBX := Lib.hid hbx
        clear hbx
        by_cases hin : i < F.length
        · have HIN := Lib.hid hin
          obtain ⟨g8, o8, rfl, hg8, hN8⟩ := (HRA.out.below HBX.out (Nat.le_refl _)).note (i := i) hin
          obtain ⟨g2, o2, rfl, hg2, hN2⟩ := (HRT.out.below HBX.out (Nat.le_refl _)).note (i := i) hin
          obtain ⟨c0, c1, c2, c3, c4, c5, c6⟩ := hN8
          obtain ⟨d0, d1, d2', d3, d4, d5, d6⟩ := hN2
          have hin' : (i : Int) < (F.length : Int) := by omega
          clear hg8 hg2
          by_cases hi0 : 0 < i
          · by_cases hge : cn ≤ i
            · -- 11
              obtain ⟨g7, o7, e7, hg7, hN7⟩ := (HRA.out.below HBX.out (Nat.le_refl _)).note (i := i - 1) (by omega)
              cases e7
              have p0 := hN7.c0
              have hw1 : IntKind.i64.wrap ((i : Int) - 1) = ((i - 1 : Nat) : Int) := by rw [IntKind.wrap_i64]; omega
              have hge1 : (0 : Int) ≤ ((i - 1 : Nat) : Int) := by omega
              have hlt1 : ((i - 1 : Nat) : Int) < (F.length : Int) := by omega
              have hris : decide (F[i]!.s < F[i - 1]!.s) = false := by rw [decide_eq_false_iff_not]; exact HRS.out i hi0 hin
              have hi0' : (0 : Int) < (i : Int) := by omega
              clear hN7 hg7
              obtain ⟨g9, o9, e9, hg9, hN9⟩ := (HRG.out.below HBX.out (Nat.le_refl _)).note (i := i - cn) (by rw [hGl.out]; have := hGm.out; omega)
              subst e9
              rw [HGI.out i hge hin] at hN9
              obtain ⟨q0, q1, q2, q3, q4, q5, q6⟩ := hN9
              have hw2 : IntKind.i64.wrap ((i : Int) - (cn : Int)) = ((i - cn : Nat) : Int) := by rw [IntKind.wrap_i64]; omega
              have hge2 : (0 : Int) ≤ ((i - cn : Nat) : Int) := by omega
              have hlt2 : ((i - cn : Nat) : Int) < (mm : Int) := by have := hGm.out; omega
              have hgc : (cn : Int) ≤ (i : Int) := by omega
              clear hg9
              generalize F[i]! = d at *
              generalize F[i - 1]! = d2 at *
              have hne := fun W => neq37 d d W
              simp only [decide_true, Bool.not_true] at hne
              clear hin
              go_upto_region 24 with (fail)
              go_quiet (fail)
              go_wp2_with fail
              go_roundg (F.length - (i + 1))
              case measure => omega
              case rel => exact ⟨i + 1, by have := HIN.out; omega, rfl, by go_num, blwN HBX.out _⟩
            · -- 10
              obtain ⟨g7, o7, e7, hg7, hN7⟩ := (HRA.out.below HBX.out (Nat.le_refl _)).note (i := i - 1) (by omega)
              cases e7
              have p0 := hN7.c0
              have hw1 : IntKind.i64.wrap ((i : Int) - 1) = ((i - 1 : Nat) : Int) := by rw [IntKind.wrap_i64]; omega
              have hge1 : (0 : Int) ≤ ((i - 1 : Nat) : Int) := by omega
              have hlt1 : ((i - 1 : Nat) : Int) < (F.length : Int) := by omega
              have hris : decide (F[i]!.s < F[i - 1]!.s) = false := by rw [decide_eq_false_iff_not]; exact HRS.out i hi0 hin
              have hi0' : (0 : Int) < (i : Int) := by omega
              clear hN7 hg7
              have hgc : ¬ (cn : Int) ≤ (i : Int) := by omega
              generalize F[i]! = d at *
              generalize F[i - 1]! = d2 at *
              have hne := fun W => neq37 d d W
              simp only [decide_true, Bool.not_true] at hne
              clear hin
              go_upto_region 24 with (fail)
              go_quiet (fail)
              go_wp2_with fail
              go_roundg (F.length - (i + 1))
              case measure => omega
              case rel => exact ⟨i + 1, by have := HIN.out; omega, rfl, by go_num, blwN HBX.out _⟩
          · by_cases hge : cn ≤ i
            · -- 01
              have hi0' : ¬ (0 : Int) < (i : Int) := by omega
              obtain ⟨g9, o9, e9, hg9, hN9⟩ := (HRG.out.below HBX.out (Nat.le_refl _)).note (i := i - cn) (by rw [hGl.out]; have := hGm.out; omega)
              subst e9
              rw [HGI.out i hge hin] at hN9
              obtain ⟨q0, q1, q2, q3, q4, q5, q6⟩ := hN9
              have hw2 : IntKind.i64.wrap ((i : Int) - (cn : Int)) = ((i - cn : Nat) : Int) := by rw [IntKind.wrap_i64]; omega
              have hge2 : (0 : Int) ≤ ((i - cn : Nat) : Int) := by omega
              have hlt2 : ((i - cn : Nat) : Int) < (mm : Int) := by have := hGm.out; omega
              have hgc : (cn : Int) ≤ (i : Int) := by omega
              clear hg9
              generalize F[i]! = d at *
              have hne := fun W => neq37 d d W
              simp only [decide_true, Bool.not_true] at hne
              clear hin
              go_upto_region 24 with (fail)
              go_quiet (fail)
              go_wp2_with fail
              go_roundg (F.length - (i + 1))
              case measure => omega
              case rel => exact ⟨i + 1, by have := HIN.out; omega, rfl, by go_num, blwN HBX.out _⟩
            · -- 00
              have hi0' : ¬ (0 : Int) < (i : Int) := by omega
              have hgc : ¬ (cn : Int) ≤ (i : Int) := by omega
              generalize F[i]! = d at *
              have hne := fun W => neq37 d d W
              simp only [decide_true, Bool.not_true] at hne
              clear hin
              go_upto_region 24 with (fail)
              go_quiet (fail)
              go_wp2_with fail
              go_roundg (F.length - (i + 1))
              case measure => omega
              case rel => exact ⟨i + 1, by have := HIN.out; omega, rfl, by go_num, blwN HBX.out _⟩
        · obtain rfl : i = F.length := by omega
          obtain ⟨wi, rfl⟩ : ∃ wi : World, wi = wr := ⟨_, rfl⟩
          have hlv := lives_any wi (HT.out.below (HBW.out.trans (HBX.out.mono HB0W.out)) HX0.out)
          have HLV := Lib.hid hlv
          clear hlv
          go_wp2_with (go_at_call 7; refine HLV.out.mono ?_; rintro e wl ⟨rfl, hbl⟩)
          go_ret
          exact ⟨rfl, by rw [HB0.out]; exact (HBW.out.trans (HBX.out.mono HB0W.out)).trans (hbl.mono (Nat.le_trans HB0W.out HBX.out.size))⟩
end Go.Proofs.YtoefgfolokcdhaaDoor
