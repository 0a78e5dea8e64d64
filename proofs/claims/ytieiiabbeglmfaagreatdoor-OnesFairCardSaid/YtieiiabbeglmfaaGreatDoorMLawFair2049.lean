/- Texts of this seat, one behind the other. -/
import Derived.Test.YtieiiabbeglmfaaGreatDoorMLawFair2048
set_option linter.unusedVariables false
set_option linter.unusedSimpArgs false
set_option linter.unusedVariables false
set_option linter.unusedSimpArgs false
namespace Go.Proofs.YtieiiabbeglmfaaGreatDoor.S19
set_option maxRecDepth 100000
set_option maxHeartbeats 16000000
open Go.Proofs.YtieiiabbeglmfaaGreatDoor Go.Proofs.YtieiiabbeglmfaaGreatDoor.S11 Go.Proofs.YtieiiabbeglmfaaGreatDoor.S12 Go.Proofs.YtieiiabbeglmfaaGreatDoor.S13 Go.Proofs.YtieiiabbeglmfaaGreatDoor.S14 Go.Proofs.YtieiiabbeglmfaaGreatDoor.S15 Go.Proofs.YtieiiabbeglmfaaGreatDoor.S16 Go.Proofs.YtieiiabbeglmfaaGreatDoor.S18
open Go.RowKit
theorem oneB_v {M : Sd} {D : Od} {a pi : Nat} {Q : List S10.Ent} (hq : qAt M 2 pi = Q) : oneB M D a pi = S10.cutB Q (S10.idx (S10.byKey (D.k : Int)) Q) := by
  have h : qAt (mE M a 2) ((2 : Nat) : Int) pi = Q := hq
  unfold S19.oneB takeB takeI
  rw [h]
theorem Wn.oneB {M : Sd} {q : Nat → List S10.Ent} {ta : Nat → Int} {T k : Nat} (h : Wn M q ta T k) (D : Od) : oneB M D (lokN D.k 2) (bktN D.k 2) = S10.cutB (q (bktN D.k 2)) (S10.idx (S10.byKey (D.k : Int)) (q (bktN D.k 2))) := oneB_v (h.q _ (bkt4 D.k))
theorem wn0 : Wn (sdN 0 5) (fun _ => []) (fun _ => 0) 0 0 := by
  refine ⟨sd_x, sd_a, sd_l, fun i hi => sd_q i hi, fun i hi => ?_, rfl, rfl, Nat.le_refl _, Nat.le_refl _, Nat.le_refl _⟩
  rw [sd_m, S10.fresh_at _ _ (by simpa using hi)]
def DX : Od := ⟨4, 1152, 9⟩
theorem lives19 (w : World) (hT : Tab w) (hb0 : 0 < w.heap.size) : Calls Tryz.prog 26 #[] w fun e w' => e = .returned (.bool true) ∧ Below w.heap.size w w' := by
  have HW := Lib.hid (fun W => world_any 0 (by omega) W)
  have HT := Lib.hid (And.intro hT hb0)
  clear hT hb0
  go_enter Tryz.func26, Tryz.ntmps26
  go_upto_region 2 with (go_at_call 9; refine (HW.out _).mono ?_; rintro e w1 ⟨X, rfl, hp, h0, hb1⟩; have HX := Lib.hid (And.intro hp (And.intro h0 hb1)); clear hp h0 hb1)
  have hpg := pg_of HX.out.1 HX.out.2.2
  rw [at0_sd HX.out.2.1] at hpg
  have hs := AllS.first hpg
  obtain ⟨WB, hWB⟩ : ∃ WB, WB = X.wB := ⟨_, rfl⟩
  rw [← hWB] at hs
  rw [← hWB]
  have hnew := hs.newpark (v := .nilIface) (D := D0) (.inr ⟨rfl, rfl⟩) rfl (by show 3 < 64; omega) (by show 1152 < 4294967296; omega)
  have HN : Hid (Calls Tryz.prog 11 #[.int .i64 3, .int .u32 1152, .int .u64 7, .agg #[.bool false, .int .u64 0], .nilIface] w1 fun e' w' => ∃ B, e' = .returned (Pw B) ∧ PaR w w' w.heap.size WB (sdN 0 5) (rs [] ([] ++ [[]])) (2 + ([] : List Part).length + ([] : List Rows).length) 0 1 (pa0 D0) B) := Lib.hid hnew
  clear hnew hs hpg hWB HX HW
  go_upto_region 5 with (go_at_call 11; refine HN.out.mono ?_; rintro e w2 ⟨B, rfl, h2⟩; have H2 := Lib.hid h2; clear h2)
  clear HN
  have hsl := sleep_s (D := D0) HT.out.1 HT.out.2 wn0 (by omega) (fun _ => by simp) (by show 3 < 64; omega) (by show 1152 < 4294967296; omega) rfl rfl H2.out
  have HSL : Hid (Calls Tryz.prog 12 #[Pw WB, Pw B, .int .i64 3] w2 _) := Lib.hid hsl
  clear hsl
  go_upto_region 7 with (go_at_call 12; refine HSL.out.mono ?_; rintro e w3 ⟨rfl, M1, l, E, F, hA, hS, hW, hp, hpf, htk, -, -, -, -⟩; have HA := Lib.hid hA; have HS := Lib.hid hS; have HWN := Lib.hid hW; clear hA hS hW hp hpf htk)
  clear HSL
  have hone := HA.out.one (v := .iface 81 (.int .u64 9)) (D := DX) (.inl rfl) (by show 4 < 64; omega) (by show 1152 < 4294967296; omega) (by show 9 < 18446744073709551616; omega)
  have HONE : Hid (Calls Tryz.prog 19 #[.int .i64 4, .int .u32 1152, .iface 81 (.int .u64 9)] w3 _) := Lib.hid hone
  clear hone
  go_upto_region 8 with (go_at_call 19; refine HONE.out.mono ?_; rintro e w4 ⟨B1, rfl, h4⟩; have H4 := Lib.hid h4; clear h4)
  clear HONE
  obtain ⟨pi, hpi⟩ : ∃ pi, pi = bktN 1152 2 := ⟨_, rfl⟩
  have hq1 : updQ (fun _ => ([] : List S10.Ent)) (bktN D0.k 2) ((fun _ => ([] : List S10.Ent)) (bktN D0.k 2) ++ [entD D0]) (bktN DX.k 2) = [entD D0] := by
    have hk : DX.k = D0.k := rfl
    unfold updQ
    rw [hk, if_pos rfl]; rfl
  have hB : oneB M1 DX (lokN DX.k 2) (bktN DX.k 2) = true := by
    rw [HWN.out.oneB DX, hq1]; decide
  obtain ⟨hwy, hR⟩ := HWN.out.yes (D := DX) (by show 1152 < 4294967296; omega) hB (by omega)
  have hR2 : oneR M1 DX (lokN DX.k 2) (bktN DX.k 2) = ⟨1, false, false, 3⟩ := by
    have a1 : decide (0 ≤ S10.idx (S10.byKey (DX.k : Int)) (S10.cutL [entD D0] (S10.idx (S10.byKey (DX.k : Int)) [entD D0]))) = false := by decide
    have a2 : (S10.cutE [entD D0] (S10.idx (S10.byKey (DX.k : Int)) [entD D0])).t = 3 := by decide
    rw [hR, hq1, a1, a2]
  have hq100 : ∀ i, (updQ (fun _ => ([] : List S10.Ent)) (bktN D0.k 2) ((fun _ => ([] : List S10.Ent)) (bktN D0.k 2) ++ [entD D0]) i).length ≤ 100 := fun i => by
    unfold updQ
    split <;> simp
  have hrun := one_yes (most := 20) HT.out.1 HT.out.2 HWN.out (by omega) hq100 (by show 1152 < 4294967296; omega) (by omega) hB (by rw [hR2]; decide) (by omega) H4.out
  have HRUN : Hid (Calls Tryz.prog 16 #[Pw WB, .iface 76 (Pw B1), .int .i64 20] w4 _) := Lib.hid hrun
  have hpf := oneU_pf M1 DX (lokN DX.k 2) (bktN DX.k 2)
  rw [hR2] at hpf
  have HPF := Lib.hid hpf; have HWY := Lib.hid hwy; have HR := Lib.hid hR2
  clear hrun hpf hwy hR hR2 hB hq1 hq100 hpi
  go_upto_region 9 with (go_at_call 16; refine HRUN.out.mono ?_; rintro e w5 ⟨rfl, P5, h5, p1, p2, p3⟩; have H5 := Lib.hid h5; have HP5 := Lib.hid (And.intro (p2.trans HR.out) p3); clear h5 p1 p2 p3)
  clear HRUN
  have hgot := H5.out.got HP5.out.2
  rw [HP5.out.1] at hgot
  have HGOT : Hid (Calls Tryz.prog 22 #[Pw B1] w5 fun e w' => e = .returned (.agg #[.int .i64 1, .int .i64 0, .bool false, .bool false, .int .i64 3]) ∧ Below w5.heap.size w5 w') := Lib.hid hgot
  clear hgot
  go_upto_region 10 with (go_at_call 22; refine HGOT.out.mono ?_; rintro e w6 ⟨rfl, hb6⟩; have H6 := Lib.hid (AllS.done (H5.out.new hb6)); clear hb6)
  have h7 := H6.out.alloc (.cells #[.int .i64 1, .int .i64 0, .bool false, .bool false, .int .i64 3] 69)
  obtain ⟨RB, hRB⟩ : ∃ RB, RB = w6.heap.size := ⟨_, rfl⟩
  rw [← hRB] at h7 ⊢
  have H7 : Hid (AllS w _ w.heap.size WB _ [] [l, [(RB, .cells #[.int .i64 1, .int .i64 0, .bool false, .bool false, .int .i64 3] 69)]]) := Lib.hid h7
  clear h7 hRB
  generalize w6.alloc (.cells #[.int .i64 1, .int .i64 0, .bool false, .bool false, .int .i64 3] 69) = w7 at *
  have hp6 : ((oneU M1 DX (lokN DX.k 2) (bktN DX.k 2)).pf (2 * D0.t)).p = true := by
    rw [HPF.out.1]
    show (S4.updP M1.pf 6 { M1.pf 6 with p := true } 6).p = true
    unfold S4.updP
    rw [if_pos rfl]
  have htk : (oneU M1 DX (lokN DX.k 2) (bktN DX.k 2)).tk 3 = 9 := by
    rw [HPF.out.2]
    show updT M1.tk 3 9 3 = 9
    unfold updT
    rw [if_pos rfl]
  have hwk := wake_s (i := 0) HT.out.1 HT.out.2 HWY.out (by omega) H7.out rfl HS.out rfl hp6
  have HWK := Lib.hid hwk; have HTK := Lib.hid htk
  clear hwk hp6 htk
  go_upto_region 11 with (go_at_call 31; refine HWK.out.mono ?_; rintro e w8 ⟨rfl, l', h8, s8⟩; have H8 := Lib.hid h8; have S8 := Lib.hid s8; clear h8 s8)
  clear HWK
  have hgt := got_s (i := 0) H8.out rfl S8.out (by show 3 < 64; omega)
  have e9 : ((oneU M1 DX (lokN DX.k 2) (bktN DX.k 2)).park (2 * D0.t)).tk D0.t = 9 := HTK.out
  rw [e9] at hgt
  have HGT : Hid (Calls Tryz.prog 17 #[Pw B, Pw WB] w8 fun e w' => e = .returned (.tuple #[.int .u8 2, .int .u64 9]) ∧ Below w8.heap.size w8 w') := Lib.hid hgt
  clear hgt e9
  go_upto_region 12 with (go_at_call 17; refine HGT.out.mono ?_; rintro e w9 ⟨rfl, hb9⟩; have H9 := Lib.hid (H8.out.new hb9); clear hb9)
  have hbk := H9.out.blk (i := 1) rfl
  have r0 := cell_row hbk 0; have r2 := cell_row hbk 2; have r4 := cell_row hbk 4
  clear hbk HGT
  go_wp2_with fail
  go_ret
  exact ⟨rfl, H9.out.bl⟩
end Go.Proofs.YtieiiabbeglmfaaGreatDoor.S19
set_option linter.unusedVariables false
set_option linter.unusedSimpArgs false
namespace Go.Proofs.YtieiiabbeglmfaaGreatDoor.S19
open Go.Proofs.YtieiiabbeglmfaaGreatDoor Go.Proofs.YtieiiabbeglmfaaGreatDoor.S11 Go.Proofs.YtieiiabbeglmfaaGreatDoor.S12 Go.Proofs.YtieiiabbeglmfaaGreatDoor.S13 Go.Proofs.YtieiiabbeglmfaaGreatDoor.S14 Go.Proofs.YtieiiabbeglmfaaGreatDoor.S15 Go.Proofs.YtieiiabbeglmfaaGreatDoor.S16 Go.Proofs.YtieiiabbeglmfaaGreatDoor.S18
open Go.RowKit
def kyN (b : Nat) : Nat := 1152 + 4 * (b % 4)
def sD (ks : List Nat) (i : Nat) : Pd := ⟨i, kyN ks[i]!, i, false, 0, none⟩
def sQ (ks : List Nat) (n : Nat) : Nat → List S10.Ent := fun b => ((List.range n).filter (fun i => decide (bktN (kyN ks[i]!) 2 = b))).map (fun i => entD (sD ks i))
theorem sQ_next (ks : List Nat) (n : Nat) : updQ (sQ ks n) (bktN (sD ks n).k 2) (sQ ks n (bktN (sD ks n).k 2) ++ [entD (sD ks n)]) = sQ ks (n + 1) := by
  funext b
  have ek : (sD ks n).k = kyN ks[n]! := rfl
  unfold updQ
  show (if b = bktN (sD ks n).k 2 then sQ ks n (bktN (sD ks n).k 2) ++ [entD (sD ks n)] else sQ ks n b) = ((List.range (n + 1)).filter (fun i => decide (bktN (kyN ks[i]!) 2 = b))).map (fun i => entD (sD ks i))
  rw [List.range_succ, List.filter_append, List.map_append]
  by_cases h : b = bktN (sD ks n).k 2
  · subst h
    rw [if_pos rfl, List.filter_cons_of_pos (by rw [ek]; simp)]
    rfl
  · rw [if_neg h, List.filter_cons_of_neg (by rw [← ek]; simpa using fun e => h e.symm)]
    simp [sQ]
theorem sQ_len (ks : List Nat) (n b : Nat) : (sQ ks n b).length ≤ n := by
  unfold sQ
  rw [List.length_map]
  have := List.length_filter_le (fun i => decide (bktN (kyN ks[i]!) 2 = b)) (List.range n)
  rw [List.length_range] at this
  exact this
theorem idx_map_no {l : List Nat} {e : Nat → S10.Ent} {K : Int} (h : l.filter (fun i => S10.byKey K (e i)) = []) : S10.idx (S10.byKey K) (l.map e) = -1 := by
  refine S10.idx_miss fun j hj => ?_
  rw [getElem!_pos _ j hj, List.getElem_map]
  rw [List.length_map] at hj
  have := List.filter_eq_nil_iff.1 h l[j] (List.getElem_mem hj)
  simpa using this
theorem idx_map_yes {a b : List Nat} {x : Nat} {e : Nat → S10.Ent} {K : Int} (ha : ∀ y, y ∈ a → ¬ S10.byKey K (e y) = true) (hx : S10.byKey K (e x) = true) : S10.idx (S10.byKey K) ((a ++ x :: b).map e) = (a.length : Int) := by
  refine S10.idx_hit (by simp) (fun j hj => ?_) ?_
  · rw [getElem!_pos _ j (by simp; omega), List.getElem_map, List.getElem_append_left hj]
    have := ha a[j] (List.getElem_mem hj)
    simpa using this
  · rw [getElem!_pos _ a.length (by simp), List.getElem_map, List.getElem_append_right (Nat.le_refl _)]
    simpa using hx
theorem cut_map {l : List Nat} {e : Nat → S10.Ent} {K : Int} :
    (l.filter (fun i => S10.byKey K (e i)) = [] → S10.cutB (l.map e) (S10.idx (S10.byKey K) (l.map e)) = false)
    ∧ (∀ x r, l.filter (fun i => S10.byKey K (e i)) = x :: r → l.Nodup → S10.cutB (l.map e) (S10.idx (S10.byKey K) (l.map e)) = true ∧ S10.cutE (l.map e) (S10.idx (S10.byKey K) (l.map e)) = e x
      ∧ S10.cutL (l.map e) (S10.idx (S10.byKey K) (l.map e)) = (l.filter (fun i => decide (i ≠ x))).map e ∧ decide (0 ≤ S10.idx (S10.byKey K) (S10.cutL (l.map e) (S10.idx (S10.byKey K) (l.map e)))) = decide (1 ≤ r.length)) := by
  refine ⟨fun h => ?_, fun x r h hn => ?_⟩
  · rw [idx_map_no h]
    exact (S10.cut_none (.inl (by omega))).2.2
  · obtain ⟨a, b, rfl, ha, hx, hr⟩ := List.filter_eq_cons_iff.1 h
    rw [idx_map_yes ha hx]
    obtain ⟨c1, c2, c3⟩ := S10.cut_some (D := (a ++ x :: b).map e) (k := a.length) (by simp)
    have hf : (a ++ x :: b).filter (fun i => decide (i ≠ x)) = a ++ b := by
      obtain ⟨n1, n2, n3⟩ := List.nodup_append.1 hn
      rw [List.filter_append, List.filter_cons_of_neg (by simp)]
      have e1 : a.filter (fun i => decide (i ≠ x)) = a := List.filter_eq_self.2 fun y hy => by
        simpa using n3 y hy x List.mem_cons_self
      have e2 : b.filter (fun i => decide (i ≠ x)) = b := List.filter_eq_self.2 fun y hy => by
        have := (List.nodup_cons.1 n2).1
        simp only [ne_eq, decide_eq_true_eq]
        intro e; subst e; exact this hy
      rw [e1, e2]
    have hL : S10.cutL ((a ++ x :: b).map e) (a.length : Int) = (a ++ b).map e := by
      rw [c1, List.map_append, List.map_append, List.map_cons]
      rw [List.take_left' (by simp), List.drop_append, List.drop_of_length_le (by simp)]
      simp
    refine ⟨c3, ?_, by rw [hL, hf], ?_⟩
    · rw [c2, getElem!_pos _ a.length (by simp), List.getElem_map, List.getElem_append_right (Nat.le_refl _)]
      simp
    · rw [hL]
      have hab : (a ++ b).filter (fun i => S10.byKey K (e i)) = r := by
        rw [List.filter_append, hr, List.filter_eq_nil_iff.2 (fun y hy => ha y hy), List.nil_append]
      cases hc : r with
      | nil =>
        rw [hc] at hab
        rw [idx_map_no hab]; rfl
      | cons y s =>
        rw [hc] at hab
        obtain ⟨a', b', e', ha', hx', -⟩ := List.filter_eq_cons_iff.1 hab
        rw [e', idx_map_yes ha' hx']
        rw [decide_eq_true (by omega), decide_eq_true (by simp)]
def sQg (ks : List Nat) (G : Nat → Bool) : Nat → List S10.Ent := fun b => ((List.range ks.length).filter (fun i => !G i && decide (bktN (kyN ks[i]!) 2 = b))).map (fun i => entD (sD ks i))
theorem sQ_sQg (ks : List Nat) : sQ ks ks.length = sQg ks (fun _ => false) := by
  funext b
  unfold sQ sQg
  simp
def wP (ks : List Nat) (G : Nat → Bool) (a i : Nat) : Bool := !G i && decide (ks[i]! % 4 = a % 4)
def wS (ks : List Nat) (G : Nat → Bool) (a k : Nat) : List Nat := (List.range' k (ks.length - k)).filter (wP ks G a)
def gset (G : Nat → Bool) (x : Nat) : Nat → Bool := fun i => G i || decide (i = x)
theorem wS_0 (ks : List Nat) (G : Nat → Bool) (a : Nat) : wS ks G a 0 = (List.range ks.length).filter (wP ks G a) := by
  unfold wS
  rw [List.range_eq_range', Nat.sub_zero]
theorem wS_mem {ks : List Nat} {G : Nat → Bool} {a k x : Nat} (h : x ∈ wS ks G a k) : x < ks.length ∧ k ≤ x ∧ G x = false ∧ ks[x]! % 4 = a % 4 := by
  obtain ⟨h1, h2⟩ := List.mem_filter.1 h
  rw [List.mem_range'_1] at h1
  unfold wP at h2
  rw [Bool.and_eq_true, decide_eq_true_iff] at h2
  refine ⟨by omega, h1.1, by simpa using h2.1, h2.2⟩
theorem ky_eq {x a : Nat} : kyN x = kyN a ↔ x % 4 = a % 4 := by unfold kyN; omega
theorem sQg_W (ks : List Nat) (G : Nat → Bool) (a : Nat) : ((List.range ks.length).filter (fun i => !G i && decide (bktN (kyN ks[i]!) 2 = bktN (kyN a) 2))).filter (fun i => S10.byKey ((kyN a : Nat) : Int) (entD (sD ks i))) = wS ks G a 0 := by
  rw [List.filter_filter, wS_0]
  congr 1
  funext i
  unfold wP
  have e : S10.byKey ((kyN a : Nat) : Int) (entD (sD ks i)) = decide (ks[i]! % 4 = a % 4) := decide_eq_decide.2 ⟨fun h => ky_eq.1 (Int.ofNat_inj.1 h), fun h => Int.ofNat_inj.2 (ky_eq.2 h)⟩
  rw [e]
  by_cases h : ks[i]! % 4 = a % 4
  · rw [decide_eq_true h, ky_eq.2 h]; simp
  · rw [decide_eq_false h]; simp
theorem ask_yes {ks : List Nat} {G : Nat → Bool} {a x : Nat} {r : List Nat} (h : wS ks G a 0 = x :: r) : S10.cutB (sQg ks G (bktN (kyN a) 2)) (S10.idx (S10.byKey ((kyN a : Nat) : Int)) (sQg ks G (bktN (kyN a) 2))) = true
    ∧ (S10.cutE (sQg ks G (bktN (kyN a) 2)) (S10.idx (S10.byKey ((kyN a : Nat) : Int)) (sQg ks G (bktN (kyN a) 2)))).t = (x : Int)
    ∧ updQ (sQg ks G) (bktN (kyN a) 2) (S10.cutL (sQg ks G (bktN (kyN a) 2)) (S10.idx (S10.byKey ((kyN a : Nat) : Int)) (sQg ks G (bktN (kyN a) 2)))) = sQg ks (gset G x)
    ∧ decide (0 ≤ S10.idx (S10.byKey ((kyN a : Nat) : Int)) (S10.cutL (sQg ks G (bktN (kyN a) 2)) (S10.idx (S10.byKey ((kyN a : Nat) : Int)) (sQg ks G (bktN (kyN a) 2))))) = decide (1 ≤ r.length) := by
  have hx := wS_mem (k := 0) (show x ∈ wS ks G a 0 by rw [h]; exact List.mem_cons_self)
  have hn : ((List.range ks.length).filter (fun i => !G i && decide (bktN (kyN ks[i]!) 2 = bktN (kyN a) 2))).Nodup := List.Pairwise.filter _ List.nodup_range
  obtain ⟨h1, h2, h3, h4⟩ := cut_map.2 x r ((sQg_W ks G a).trans h) hn
  refine ⟨h1, congrArg S10.Ent.t h2, ?_, h4⟩
  funext b
  unfold updQ
  by_cases hb : b = bktN (kyN a) 2
  · rw [if_pos hb]
    refine h3.trans ?_
    unfold sQg gset
    rw [List.filter_filter, hb]
    congr 2
    funext i
    by_cases hi : i = x
    · subst hi; simp
    · simp [hi]
  · rw [if_neg hb]
    unfold sQg gset
    congr 2
    funext i
    by_cases hi : i = x
    · subst hi
      rw [ky_eq.2 hx.2.2.2, decide_eq_false (fun e => hb e.symm)]
      simp
    · simp [hi]
end Go.Proofs.YtieiiabbeglmfaaGreatDoor.S19
set_option linter.unusedVariables false
set_option linter.unusedSimpArgs false
namespace Go.Proofs.YtieiiabbeglmfaaGreatDoor.S19
open Go.Proofs.YtieiiabbeglmfaaGreatDoor Go.Proofs.YtieiiabbeglmfaaGreatDoor.S11 Go.Proofs.YtieiiabbeglmfaaGreatDoor.S12 Go.Proofs.YtieiiabbeglmfaaGreatDoor.S13 Go.Proofs.YtieiiabbeglmfaaGreatDoor.S14 Go.Proofs.YtieiiabbeglmfaaGreatDoor.S15 Go.Proofs.YtieiiabbeglmfaaGreatDoor.S16 Go.Proofs.YtieiiabbeglmfaaGreatDoor.S18
open Go.RowKit
theorem layP : S10.Lay 28 32 1 8 (.pointer none) := ⟨Tryz.underlying28, S10.info_of (by kernel_rfl), rfl, by decide, by decide⟩
def ptrs (Bs : List Nat) : List Value := Bs.map Pw
section
variable {w0 w w' : World} {base WB : Nat} {M : Sd} {H : List Part} {L : List Rows} {B : Nat} {X : Wm}
theorem AllS.app (h : AllS w0 w base WB M H L) {a n m : Nat} {s v' : Value} {cs cs' : List Value} {w1 w2 : World} (ha : H[a]? = some (intsP s n cs)) (b : Below w.heap.size w w1) (hr : S10.Row w2 0 1 v' m cs') (t : S10.Turns (fun k => s.ownBlock = some k) w1 w2) (ho : v'.ownBlock = s.ownBlock ∨ v'.ownBlock = some w1.heap.size) : AllS w0 w2 base WB M (H.set a (intsP v' m cs')) L :=
  (h.new b).turnH ha (intsP v' m cs') hr ⟨t.os, t.tape, t.output, t.size, t.block⟩ (fun k e => by
    have e' : v'.ownBlock = some k := e
    rcases ho with ho | ho
    · exact .inl (ho.symm.trans e')
    · rw [ho] at e'
      injection e' with e'
      exact .inr (Nat.le_of_eq e'))
theorem AllS.setB (h : AllS w0 w base WB M H L) {a : Nat} {p : Part} (ha : H[a]? = some p) (ob : Obj) : AllS w0 (w.alloc ob) base WB M (H.set a (rowsP [(w.heap.size, ob)])) L :=
  h.turnH ha (rowsP [(w.heap.size, ob)]) ⟨fun x hx => by rw [List.mem_singleton] at hx; rw [hx]; exact heap_alloc_new w ob, by simp⟩ (Turns.of_below (below1 w ob)) (fun k e => by simp [rowsP] at e; exact .inr (by omega))
end
end Go.Proofs.YtieiiabbeglmfaaGreatDoor.S19
