/- Texts of this seat, one behind the other. -/
import Derived.Test.YtieiiabbeglmfaaGreatDoorMLawOldest2047
set_option linter.unusedVariables false
set_option linter.unusedSimpArgs false
set_option linter.unusedVariables false
set_option linter.unusedSimpArgs false
namespace Go.Proofs.YtieiiabbeglmfaaGreatDoor.S19
set_option maxRecDepth 100000
set_option maxHeartbeats 16000000
open Go.Proofs.YtieiiabbeglmfaaGreatDoor Go.Proofs.YtieiiabbeglmfaaGreatDoor.S11 Go.Proofs.YtieiiabbeglmfaaGreatDoor.S12 Go.Proofs.YtieiiabbeglmfaaGreatDoor.S13 Go.Proofs.YtieiiabbeglmfaaGreatDoor.S14 Go.Proofs.YtieiiabbeglmfaaGreatDoor.S15 Go.Proofs.YtieiiabbeglmfaaGreatDoor.S16 Go.Proofs.YtieiiabbeglmfaaGreatDoor.S18
open Go.RowKit
theorem oneB_v {M : Sd} {D : Od} {a pi : Nat} {Q : List S10.Ent} (hq : qAt M 2 pi = Q) : oneB M D a pi = S10.cutB Q (S10.idx (S10.byKey (D.k : Int)) Q) := by
  have h : qAt (mE M a 2) ((2 : Nat) : Int) pi = Q := hq
  unfold S19.oneB takeB takeI
  rw [h]
theorem Wn.oneB {M : Sd} {q : Nat → List S10.Ent} {ta : Nat → Int} {T k : Nat} (h : Wn M q ta T k) (D : Od) : oneB M D (lokN D.k 2) (bktN D.k 2) = S10.cutB (q (bktN D.k 2)) (S10.idx (S10.byKey (D.k : Int)) (q (bktN D.k 2))) := oneB_v (h.q _ (bkt4 D.k))
theorem wn0 : Wn (sdN 0 5) (fun _ => []) (fun _ => 0) 0 0 := by
  refine ⟨sd_x, sd_a, sd_l, fun i hi => sd_q i hi, fun i hi => ?_, rfl, rfl, Nat.le_refl _, Nat.le_refl _, Nat.le_refl _⟩
  rw [sd_m, S10.fresh_at _ _ (by simpa using hi)]
def DX : Od := ⟨4, 1152, 9⟩
theorem lives19 (w : World) (hT : Tab w) (hb0 : 0 < w.heap.size) : Calls Tryz.prog 26 #[] w fun e w' => e = .returned (.bool true) ∧ Below w.heap.size w w' := by
  have HW := Lib.hid (fun W => world_any 0 (by omega) W)
  have HT := Lib.hid (And.intro hT hb0)
  clear hT hb0
  go_enter Tryz.func26, Tryz.ntmps26
  go_upto_region 2 with (go_at_call 9; refine (HW.out _).mono ?_; rintro e w1 ⟨X, rfl, hp, h0, hb1⟩; have HX := Lib.hid (And.intro hp (And.intro h0 hb1)); clear hp h0 hb1)
  have hpg := pg_of HX.out.1 HX.out.2.2
  rw [at0_sd HX.out.2.1] at hpg
  have hs := AllS.first hpg
  obtain ⟨WB, hWB⟩ : ∃ WB, WB = X.wB := ⟨_, rfl⟩
  rw [← hWB] at hs
  rw [← hWB]
  have hnew := hs.newpark (v := .nilIface) (D := D0) (.inr ⟨rfl, rfl⟩) rfl (by show 3 < 64; omega) (by show 1152 < 4294967296; omega)
  have HN : Hid (Calls Tryz.prog 11 #[.int .i64 3, .int .u32 1152, .int .u64 7, .agg #[.bool false, .int .u64 0], .nilIface] w1 fun e' w' => ∃ B, e' = .returned (Pw B) ∧ PaR w w' w.heap.size WB (sdN 0 5) (rs [] ([] ++ [[]])) (2 + ([] : List Part).length + ([] : List Rows).length) 0 1 (pa0 D0) B) := Lib.hid hnew
  clear hnew hs hpg hWB HX HW
  go_upto_region 5 with (go_at_call 11; refine HN.out.mono ?_; rintro e w2 ⟨B, rfl, h2⟩; have H2 := Lib.hid h2; clear h2)
  clear HN
  have hsl := sleep_s (D := D0) HT.out.1 HT.out.2 wn0 (by omega) (fun _ => by simp) (by show 3 < 64; omega) (by show 1152 < 4294967296; omega) rfl rfl H2.out
  have HSL : Hid (Calls Tryz.prog 12 #[Pw WB, Pw B, .int .i64 3] w2 _) := Lib.hid hsl
  clear hsl
  go_upto_region 7 with (go_at_call 12; refine HSL.out.mono ?_; rintro e w3 ⟨rfl, M1, l, E, F, hA, hS, hW, hp, hpf, htk, -, -, -, -⟩; have HA := Lib.hid hA; have HS := Lib.hid hS; have HWN := Lib.hid hW; clear hA hS hW hp hpf htk)
  clear HSL
  have hone := HA.out.one (v := .iface 81 (.int .u64 9)) (D := DX) (.inl rfl) (by show 4 < 64; omega) (by show 1152 < 4294967296; omega) (by show 9 < 18446744073709551616; omega)
  have HONE : Hid (Calls Tryz.prog 19 #[.int .i64 4, .int .u32 1152, .iface 81 (.int .u64 9)] w3 _) := Lib.hid hone
  clear hone
  go_upto_region 8 with (go_at_call 19; refine HONE.out.mono ?_; rintro e w4 ⟨B1, rfl, h4⟩; have H4 := Lib.hid h4; clear h4)
  clear HONE
  obtain ⟨pi, hpi⟩ : ∃ pi, pi = bktN 1152 2 := ⟨_, rfl⟩
  have hq1 : updQ (fun _ => ([] : List S10.Ent)) (bktN D0.k 2) ((fun _ => ([] : List S10.Ent)) (bktN D0.k 2) ++ [entD D0]) (bktN DX.k 2) = [entD D0] := by
    have hk : DX.k = D0.k := rfl
    unfold updQ
    rw [hk, if_pos rfl]; rfl
  have hB : oneB M1 DX (lokN DX.k 2) (bktN DX.k 2) = true := by
    rw [HWN.out.oneB DX, hq1]; decide
  obtain ⟨hwy, hR⟩ := HWN.out.yes (D := DX) (by show 1152 < 4294967296; omega) hB (by omega)
  have hR2 : oneR M1 DX (lokN DX.k 2) (bktN DX.k 2) = ⟨1, false, false, 3⟩ := by
    have a1 : decide (0 ≤ S10.idx (S10.byKey (DX.k : Int)) (S10.cutL [entD D0] (S10.idx (S10.byKey (DX.k : Int)) [entD D0]))) = false := by decide
    have a2 : (S10.cutE [entD D0] (S10.idx (S10.byKey (DX.k : Int)) [entD D0])).t = 3 := by decide
    rw [hR, hq1, a1, a2]
  have hq100 : ∀ i, (updQ (fun _ => ([] : List S10.Ent)) (bktN D0.k 2) ((fun _ => ([] : List S10.Ent)) (bktN D0.k 2) ++ [entD D0]) i).length ≤ 100 := fun i => by
    unfold updQ
    split <;> simp
  have hrun := one_yes (most := 20) HT.out.1 HT.out.2 HWN.out (by omega) hq100 (by show 1152 < 4294967296; omega) (by omega) hB (by rw [hR2]; decide) (by omega) H4.out
  have HRUN : Hid (Calls Tryz.prog 16 #[Pw WB, .iface 76 (Pw B1), .int .i64 20] w4 _) := Lib.hid hrun
  have hpf := oneU_pf M1 DX (lokN DX.k 2) (bktN DX.k 2)
  rw [hR2] at hpf
  have HPF := Lib.hid hpf; have HWY := Lib.hid hwy; have HR := Lib.hid hR2
  clear hrun hpf hwy hR hR2 hB hq1 hq100 hpi
  go_upto_region 9 with (go_at_call 16; refine HRUN.out.mono ?_; rintro e w5 ⟨rfl, P5, h5, p1, p2, p3⟩; have H5 := Lib.hid h5; have HP5 := Lib.hid (And.intro (p2.trans HR.out) p3); clear h5 p1 p2 p3)
  clear HRUN
  have hgot := H5.out.got HP5.out.2
  rw [HP5.out.1] at hgot
  have HGOT : Hid (Calls Tryz.prog 22 #[Pw B1] w5 fun e w' => e = .returned (.agg #[.int .i64 1, .int .i64 0, .bool false, .bool false, .int .i64 3]) ∧ Below w5.heap.size w5 w') := Lib.hid hgot
  clear hgot
  go_upto_region 10 with (go_at_call 22; refine HGOT.out.mono ?_; rintro e w6 ⟨rfl, hb6⟩; have H6 := Lib.hid (AllS.done (H5.out.new hb6)); clear hb6)
  have h7 := H6.out.alloc (.cells #[.int .i64 1, .int .i64 0, .bool false, .bool false, .int .i64 3] 69)
  obtain ⟨RB, hRB⟩ : ∃ RB, RB = w6.heap.size := ⟨_, rfl⟩
  rw [← hRB] at h7 ⊢
  have H7 : Hid (AllS w _ w.heap.size WB _ [] [l, [(RB, .cells #[.int .i64 1, .int .i64 0, .bool false, .bool false, .int .i64 3] 69)]]) := Lib.hid h7
  clear h7 hRB
  generalize w6.alloc (.cells #[.int .i64 1, .int .i64 0, .bool false, .bool false, .int .i64 3] 69) = w7 at *
  have hp6 : ((oneU M1 DX (lokN DX.k 2) (bktN DX.k 2)).pf (2 * D0.t)).p = true := by
    rw [HPF.out.1]
    show (S4.updP M1.pf 6 { M1.pf 6 with p := true } 6).p = true
    unfold S4.updP
    rw [if_pos rfl]
  have htk : (oneU M1 DX (lokN DX.k 2) (bktN DX.k 2)).tk 3 = 9 := by
    rw [HPF.out.2]
    show updT M1.tk 3 9 3 = 9
    unfold updT
    rw [if_pos rfl]
  have hwk := wake_s (i := 0) HT.out.1 HT.out.2 HWY.out (by omega) H7.out rfl HS.out rfl hp6
  have HWK := Lib.hid hwk; have HTK := Lib.hid htk
  clear hwk hp6 htk
  go_upto_region 11 with (go_at_call 31; refine HWK.out.mono ?_; rintro e w8 ⟨rfl, l', h8, s8⟩; have H8 := Lib.hid h8; have S8 := Lib.hid s8; clear h8 s8)
  clear HWK
  have hgt := got_s (i := 0) H8.out rfl S8.out (by show 3 < 64; omega)
  have e9 : ((oneU M1 DX (lokN DX.k 2) (bktN DX.k 2)).park (2 * D0.t)).tk D0.t = 9 := HTK.out
  rw [e9] at hgt
  have HGT : Hid (Calls Tryz.prog 17 #[Pw B, Pw WB] w8 fun e w' => e = .returned (.tuple #[.int .u8 2, .int .u64 9]) ∧ Below w8.heap.size w8 w') := Lib.hid hgt
  clear hgt e9
  go_upto_region 12 with (go_at_call 17; refine HGT.out.mono ?_; rintro e w9 ⟨rfl, hb9⟩; have H9 := Lib.hid (H8.out.new hb9); clear hb9)
  have hbk := H9.out.blk (i := 1) rfl
  have r0 := cell_row hbk 0; have r2 := cell_row hbk 2; have r4 := cell_row hbk 4
  clear hbk HGT
  go_wp2_with fail
  go_ret
  exact ⟨rfl, H9.out.bl⟩
end Go.Proofs.YtieiiabbeglmfaaGreatDoor.S19
set_option linter.unusedVariables false
set_option linter.unusedSimpArgs false
namespace Go.Proofs.YtieiiabbeglmfaaGreatDoor.S19
open Go.Proofs.YtieiiabbeglmfaaGreatDoor Go.Proofs.YtieiiabbeglmfaaGreatDoor.S11 Go.Proofs.YtieiiabbeglmfaaGreatDoor.S12 Go.Proofs.YtieiiabbeglmfaaGreatDoor.S13 Go.Proofs.YtieiiabbeglmfaaGreatDoor.S14 Go.Proofs.YtieiiabbeglmfaaGreatDoor.S15 Go.Proofs.YtieiiabbeglmfaaGreatDoor.S16 Go.Proofs.YtieiiabbeglmfaaGreatDoor.S18
open Go.RowKit
def kyN (b : Nat) : Nat := 1152 + 4 * (b % 4)
def sD (ks : List Nat) (i : Nat) : Pd := ⟨i, kyN ks[i]!, i, false, 0, none⟩
def sQ (ks : List Nat) (n : Nat) : Nat → List S10.Ent := fun b => ((List.range n).filter (fun i => decide (bktN (kyN ks[i]!) 2 = b))).map (fun i => entD (sD ks i))
theorem sQ_next (ks : List Nat) (n : Nat) : updQ (sQ ks n) (bktN (sD ks n).k 2) (sQ ks n (bktN (sD ks n).k 2) ++ [entD (sD ks n)]) = sQ ks (n + 1) := by
  funext b
  have ek : (sD ks n).k = kyN ks[n]! := rfl
  unfold updQ
  show (if b = bktN (sD ks n).k 2 then sQ ks n (bktN (sD ks n).k 2) ++ [entD (sD ks n)] else sQ ks n b) = ((List.range (n + 1)).filter (fun i => decide (bktN (kyN ks[i]!) 2 = b))).map (fun i => entD (sD ks i))
  rw [List.range_succ, List.filter_append, List.map_append]
  by_cases h : b = bktN (sD ks n).k 2
  · subst h
    rw [if_pos rfl, List.filter_cons_of_pos (by rw [ek]; simp)]
    rfl
  · rw [if_neg h, List.filter_cons_of_neg (by rw [← ek]; simpa using fun e => h e.symm)]
    simp [sQ]
theorem sQ_len (ks : List Nat) (n b : Nat) : (sQ ks n b).length ≤ n := by
  unfold sQ
  rw [List.length_map]
  have := List.length_filter_le (fun i => decide (bktN (kyN ks[i]!) 2 = b)) (List.range n)
  rw [List.length_range] at this
  exact this
theorem idx_map_no {l : List Nat} {e : Nat → S10.Ent} {K : Int} (h : l.filter (fun i => S10.byKey K (e i)) = []) : S10.idx (S10.byKey K) (l.map e) = -1 := by
  refine S10.idx_miss fun j hj => ?_
  rw [getElem!_pos _ j hj, List.getElem_map]
  rw [List.length_map] at hj
  have := List.filter_eq_nil_iff.1 h l[j] (List.getElem_mem hj)
  simpa using this
theorem idx_map_yes {a b : List Nat} {x : Nat} {e : Nat → S10.Ent} {K : Int} (ha : ∀ y, y ∈ a → ¬ S10.byKey K (e y) = true) (hx : S10.byKey K (e x) = true) : S10.idx (S10.byKey K) ((a ++ x :: b).map e) = (a.length : Int) := by
  refine S10.idx_hit (by simp) (fun j hj => ?_) ?_
  · rw [getElem!_pos _ j (by simp; omega), List.getElem_map, List.getElem_append_left hj]
    have := ha a[j] (List.getElem_mem hj)
    simpa using this
  · rw [getElem!_pos _ a.length (by simp), List.getElem_map, List.getElem_append_right (Nat.le_refl _)]
    simpa using hx
theorem cut_map {l : List Nat} {e : Nat → S10.Ent} {K : Int} :
    (l.filter (fun i => S10.byKey K (e i)) = [] → S10.cutB (l.map e) (S10.idx (S10.byKey K) (l.map e)) = false)
    ∧ (∀ x r, l.filter (fun i => S10.byKey K (e i)) = x :: r → l.Nodup → S10.cutB (l.map e) (S10.idx (S10.byKey K) (l.map e)) = true ∧ S10.cutE (l.map e) (S10.idx (S10.byKey K) (l.map e)) = e x
      ∧ S10.cutL (l.map e) (S10.idx (S10.byKey K) (l.map e)) = (l.filter (fun i => decide (i ≠ x))).map e ∧ decide (0 ≤ S10.idx (S10.byKey K) (S10.cutL (l.map e) (S10.idx (S10.byKey K) (l.map e)))) = decide (1 ≤ r.length)) := by
  refine ⟨fun h => ?_, fun x r h hn => ?_⟩
  · rw [idx_map_no h]
    exact (S10.cut_none (.inl (by omega))).2.2
  · obtain ⟨a, b, rfl, ha, hx, hr⟩ := List.filter_eq_cons_iff.1 h
    rw [idx_map_yes ha hx]
    obtain ⟨c1, c2, c3⟩ := S10.cut_some (D := (a ++ x :: b).map e) (k := a.length) (by simp)
    have hf : (a ++ x :: b).filter (fun i => decide (i ≠ x)) = a ++ b := by
      obtain ⟨n1, n2, n3⟩ := List.nodup_append.1 hn
      rw [List.filter_append, List.filter_cons_of_neg (by simp)]
      have e1 : a.filter (fun i => decide (i ≠ x)) = a := List.filter_eq_self.2 fun y hy => by
        simpa using n3 y hy x List.mem_cons_self
      have e2 : b.filter (fun i => decide (i ≠ x)) = b := List.filter_eq_self.2 fun y hy => by
        have := (List.nodup_cons.1 n2).1
        simp only [ne_eq, decide_eq_true_eq]
        intro e; subst e; exact this hy
      rw [e1, e2]
    have hL : S10.cutL ((a ++ x :: b).map e) (a.length : Int) = (a ++ b).map e := by
      rw [c1, List.map_append, List.map_append, List.map_cons]
      rw [List.take_left' (by simp), List.drop_append, List.drop_of_length_le (by simp)]
      simp
    refine ⟨c3, ?_, by rw [hL, hf], ?_⟩
    · rw [c2, getElem!_pos _ a.length (by simp), List.getElem_map, List.getElem_append_right (Nat.le_refl _)]
      simp
    · rw [hL]
      have hab : (a ++ b).filter (fun i => S10.byKey K (e i)) = r := by
        rw [List.filter_append, hr, List.filter_eq_nil_iff.2 (fun y hy => ha y hy), List.nil_append]
      cases hc : r with
      | nil =>
        rw [hc] at hab
        rw [idx_map_no hab]; rfl
      | cons y s =>
        rw [hc] at hab
        obtain ⟨a', b', e', ha', hx', -⟩ := List.filter_eq_cons_iff.1 hab
        rw [e', idx_map_yes ha' hx']
        rw [decide_eq_true (by omega), decide_eq_true (by simp)]
def sQg (ks : List Nat) (G : Nat → Bool) : Nat → List S10.Ent := fun b => ((List.range ks.length).filter (fun i => !G i && decide (bktN (kyN ks[i]!) 2 = b))).map (fun i => entD (sD ks i))
theorem sQ_sQg (ks : List Nat) : sQ ks ks.length = sQg ks (fun _ => false) := by
  funext b
  unfold sQ sQg
  simp
def wP (ks : List Nat) (G : Nat → Bool) (a i : Nat) : Bool := !G i && decide (ks[i]! % 4 = a % 4)
def wS (ks : List Nat) (G : Nat → Bool) (a k : Nat) : List Nat := (List.range' k (ks.length - k)).filter (wP ks G a)
def hdZ (l : List Nat) : Int := match l with | [] => -1 | x :: _ => (x : Int)
def gset (G : Nat → Bool) (x : Nat) : Nat → Bool := fun i => G i || decide (i = x)
theorem wS_end (ks : List Nat) (G : Nat → Bool) (a : Nat) : wS ks G a ks.length = [] := by simp [wS]
theorem wS_next {ks : List Nat} {G : Nat → Bool} {a k : Nat} (hk : k < ks.length) : wS ks G a k = if wP ks G a k then k :: wS ks G a (k + 1) else wS ks G a (k + 1) := by
  unfold wS
  rw [show ks.length - k = (ks.length - (k + 1)) + 1 by omega, List.range'_succ, List.filter_cons]
theorem wS_0 (ks : List Nat) (G : Nat → Bool) (a : Nat) : wS ks G a 0 = (List.range ks.length).filter (wP ks G a) := by
  unfold wS
  rw [List.range_eq_range', Nat.sub_zero]
theorem wS_mem {ks : List Nat} {G : Nat → Bool} {a k x : Nat} (h : x ∈ wS ks G a k) : x < ks.length ∧ k ≤ x ∧ G x = false ∧ ks[x]! % 4 = a % 4 := by
  obtain ⟨h1, h2⟩ := List.mem_filter.1 h
  rw [List.mem_range'_1] at h1
  unfold wP at h2
  rw [Bool.and_eq_true, decide_eq_true_iff] at h2
  refine ⟨by omega, h1.1, by simpa using h2.1, h2.2⟩
theorem hdZ_ge {l : List Nat} : decide (0 ≤ hdZ l) = decide (1 ≤ l.length) := by
  cases l with
  | nil => rfl
  | cons x r => exact decide_eq_decide.2 ⟨fun _ => by simp, fun _ => by unfold hdZ; exact Int.natCast_nonneg x⟩
theorem ky_eq {x a : Nat} : kyN x = kyN a ↔ x % 4 = a % 4 := by unfold kyN; omega
theorem sQg_W (ks : List Nat) (G : Nat → Bool) (a : Nat) : ((List.range ks.length).filter (fun i => !G i && decide (bktN (kyN ks[i]!) 2 = bktN (kyN a) 2))).filter (fun i => S10.byKey ((kyN a : Nat) : Int) (entD (sD ks i))) = wS ks G a 0 := by
  rw [List.filter_filter, wS_0]
  congr 1
  funext i
  unfold wP
  have e : S10.byKey ((kyN a : Nat) : Int) (entD (sD ks i)) = decide (ks[i]! % 4 = a % 4) := decide_eq_decide.2 ⟨fun h => ky_eq.1 (Int.ofNat_inj.1 h), fun h => Int.ofNat_inj.2 (ky_eq.2 h)⟩
  rw [e]
  by_cases h : ks[i]! % 4 = a % 4
  · rw [decide_eq_true h, ky_eq.2 h]; simp
  · rw [decide_eq_false h]; simp
theorem ask_no {ks : List Nat} {G : Nat → Bool} {a : Nat} (h : wS ks G a 0 = []) : S10.cutB (sQg ks G (bktN (kyN a) 2)) (S10.idx (S10.byKey ((kyN a : Nat) : Int)) (sQg ks G (bktN (kyN a) 2))) = false :=
  cut_map.1 ((sQg_W ks G a).trans h)
theorem ask_yes {ks : List Nat} {G : Nat → Bool} {a x : Nat} {r : List Nat} (h : wS ks G a 0 = x :: r) : S10.cutB (sQg ks G (bktN (kyN a) 2)) (S10.idx (S10.byKey ((kyN a : Nat) : Int)) (sQg ks G (bktN (kyN a) 2))) = true
    ∧ (S10.cutE (sQg ks G (bktN (kyN a) 2)) (S10.idx (S10.byKey ((kyN a : Nat) : Int)) (sQg ks G (bktN (kyN a) 2)))).t = (x : Int)
    ∧ updQ (sQg ks G) (bktN (kyN a) 2) (S10.cutL (sQg ks G (bktN (kyN a) 2)) (S10.idx (S10.byKey ((kyN a : Nat) : Int)) (sQg ks G (bktN (kyN a) 2)))) = sQg ks (gset G x)
    ∧ decide (0 ≤ S10.idx (S10.byKey ((kyN a : Nat) : Int)) (S10.cutL (sQg ks G (bktN (kyN a) 2)) (S10.idx (S10.byKey ((kyN a : Nat) : Int)) (sQg ks G (bktN (kyN a) 2))))) = decide (1 ≤ r.length) := by
  have hx := wS_mem (k := 0) (show x ∈ wS ks G a 0 by rw [h]; exact List.mem_cons_self)
  have hn : ((List.range ks.length).filter (fun i => !G i && decide (bktN (kyN ks[i]!) 2 = bktN (kyN a) 2))).Nodup := List.Pairwise.filter _ List.nodup_range
  obtain ⟨h1, h2, h3, h4⟩ := cut_map.2 x r ((sQg_W ks G a).trans h) hn
  refine ⟨h1, congrArg S10.Ent.t h2, ?_, h4⟩
  funext b
  unfold updQ
  by_cases hb : b = bktN (kyN a) 2
  · rw [if_pos hb]
    refine h3.trans ?_
    unfold sQg gset
    rw [List.filter_filter, hb]
    congr 2
    funext i
    by_cases hi : i = x
    · subst hi; simp
    · simp [hi]
  · rw [if_neg hb]
    unfold sQg gset
    congr 2
    funext i
    by_cases hi : i = x
    · subst hi
      rw [ky_eq.2 hx.2.2.2, decide_eq_false (fun e => hb e.symm)]
      simp
    · simp [hi]
theorem sQg_len (ks : List Nat) (G : Nat → Bool) (b : Nat) : (sQg ks G b).length ≤ ks.length := by
  unfold sQg
  rw [List.length_map]
  have := List.length_filter_le (fun i => !G i && decide (bktN (kyN ks[i]!) 2 = b)) (List.range ks.length)
  rw [List.length_range] at this
  exact this
theorem only_k (A : Nat → Bool) (k : Nat) : ∀ n, ((List.range n).filter A).filter (fun j : Nat => decide (((j : Nat) : Int) = (k : Int))) = if k < n ∧ A k = true then [k] else []
  | 0 => by simp
  | n + 1 => by
    rw [List.range_succ, List.filter_append, List.filter_append, only_k A k n]
    by_cases hk : k = n
    · subst hk
      by_cases hA : A k = true
      · simp [hA]
      · simp [hA]
    · have e1 : List.filter (fun j : Nat => decide (((j : Nat) : Int) = (k : Int))) (List.filter A [n]) = [] := by
        refine List.filter_eq_nil_iff.2 fun y hy => ?_
        have := (List.mem_filter.1 hy).1
        rw [List.mem_singleton] at this
        subst this
        simp; omega
      rw [e1, List.append_nil]
      by_cases hA : A k = true
      · by_cases h : k < n
        · rw [if_pos ⟨h, hA⟩, if_pos ⟨by omega, hA⟩]
        · rw [if_neg (fun e => h e.1), if_neg (fun e => by have := e.1; omega)]
      · rw [if_neg (fun e => hA e.2), if_neg (fun e => hA e.2)]
theorem sQg_count (ks : List Nat) (G : Nat → Bool) (b k : Nat) : ((sQg ks G b).filter (fun e => decide (e.t = (k : Int)))).length = if k < ks.length ∧ G k = false ∧ bktN (kyN ks[k]!) 2 = b then 1 else 0 := by
  unfold sQg
  rw [List.filter_map, List.length_map]
  have := only_k (fun i => !G i && decide (bktN (kyN ks[i]!) 2 = b)) k ks.length
  show (List.filter (fun j : Nat => decide (((j : Nat) : Int) = (k : Int))) _).length = _
  rw [this]
  by_cases h : k < ks.length ∧ G k = false ∧ bktN (kyN ks[k]!) 2 = b
  · rw [if_pos h, if_pos ⟨h.1, by rw [h.2.1, decide_eq_true h.2.2]; rfl⟩]; rfl
  · rw [if_neg h, if_neg (fun e => h ⟨e.1, by simpa using e.2⟩)]; rfl
theorem sQg_pos (ks : List Nat) (G : Nat → Bool) (k : Nat) : (List.map (fun i => ((sQg ks G i).filter (fun e => decide (e.t = (k : Int)))).length) [0, 1, 2, 3]).sum = if k < ks.length ∧ G k = false then 1 else 0 := by
  have h4 := bkt4 (kyN ks[k]!)
  simp only [sQg_count]
  generalize bktN (kyN ks[k]!) 2 = b at *
  by_cases h : k < ks.length ∧ G k = false
  · rw [if_pos h]
    obtain ⟨h1, h2⟩ := h
    rcases (show b = 0 ∨ b = 1 ∨ b = 2 ∨ b = 3 by omega) with rfl | rfl | rfl | rfl <;> simp [h1, h2]
  · rw [if_neg h]
    simp only [show ∀ i, (k < ks.length ∧ G k = false ∧ b = i) = False from fun i => eq_false (fun e => h ⟨e.1, e.2.1⟩), if_false]
    rfl
end Go.Proofs.YtieiiabbeglmfaaGreatDoor.S19
set_option linter.unusedVariables false
set_option linter.unusedSimpArgs false
namespace Go.Proofs.YtieiiabbeglmfaaGreatDoor.S19
open Go.Proofs.YtieiiabbeglmfaaGreatDoor Go.Proofs.YtieiiabbeglmfaaGreatDoor.S11 Go.Proofs.YtieiiabbeglmfaaGreatDoor.S12 Go.Proofs.YtieiiabbeglmfaaGreatDoor.S13 Go.Proofs.YtieiiabbeglmfaaGreatDoor.S14 Go.Proofs.YtieiiabbeglmfaaGreatDoor.S15 Go.Proofs.YtieiiabbeglmfaaGreatDoor.S16 Go.Proofs.YtieiiabbeglmfaaGreatDoor.S18
open Go.RowKit
theorem layP : S10.Lay 28 32 1 8 (.pointer none) := ⟨Tryz.underlying28, S10.info_of (by kernel_rfl), rfl, by decide, by decide⟩
def ptrs (Bs : List Nat) : List Value := Bs.map Pw
section
variable {w0 w w' : World} {base WB : Nat} {M : Sd} {H : List Part} {L : List Rows} {B : Nat} {X : Wm}
theorem AllS.app (h : AllS w0 w base WB M H L) {a n m : Nat} {s v' : Value} {cs cs' : List Value} {w1 w2 : World} (ha : H[a]? = some (intsP s n cs)) (b : Below w.heap.size w w1) (hr : S10.Row w2 0 1 v' m cs') (t : S10.Turns (fun k => s.ownBlock = some k) w1 w2) (ho : v'.ownBlock = s.ownBlock ∨ v'.ownBlock = some w1.heap.size) : AllS w0 w2 base WB M (H.set a (intsP v' m cs')) L :=
  (h.new b).turnH ha (intsP v' m cs') hr ⟨t.os, t.tape, t.output, t.size, t.block⟩ (fun k e => by
    have e' : v'.ownBlock = some k := e
    rcases ho with ho | ho
    · exact .inl (ho.symm.trans e')
    · rw [ho] at e'
      injection e' with e'
      exact .inr (Nat.le_of_eq e'))
theorem row_at {s v : Value} {n k : Nat} {cs : List Value} (h : S10.Row w 0 1 s n cs) (hk : cs[k]? = some v) : ∃ g o cap, s = .slice (some ⟨g, o, none⟩) n cap ∧ n ≤ cap ∧ cap ≤ 9223372036854775807 ∧ w.cell? ⟨g, o + k, none⟩ = some v := by
  obtain ⟨A, cap, rfl, h0, h1, h2, h3, h4⟩ := h
  have hkl := (List.getElem?_eq_some_iff.1 hk).1
  cases A with
  | none => have := h3 rfl; omega
  | some ad =>
    obtain ⟨g, o, rfl, _, _, hl, _⟩ := h4 ad rfl
    unfold maxLen at h2
    exact ⟨g, o, cap, rfl, h1, by omega, hl k v hk⟩
theorem AllS.setB (h : AllS w0 w base WB M H L) {a : Nat} {p : Part} (ha : H[a]? = some p) (ob : Obj) : AllS w0 (w.alloc ob) base WB M (H.set a (rowsP [(w.heap.size, ob)])) L :=
  h.turnH ha (rowsP [(w.heap.size, ob)]) ⟨fun x hx => by rw [List.mem_singleton] at hx; rw [hx]; exact heap_alloc_new w ob, by simp⟩ (Turns.of_below (below1 w ob)) (fun k e => by simp [rowsP] at e; exact .inr (by omega))
end
end Go.Proofs.YtieiiabbeglmfaaGreatDoor.S19
set_option linter.unusedVariables false
set_option linter.unusedSimpArgs false
namespace Go.Proofs.YtieiiabbeglmfaaGreatDoor.S19
set_option maxRecDepth 100000
set_option maxHeartbeats 16000000
open Go.Proofs.YtieiiabbeglmfaaGreatDoor Go.Proofs.YtieiiabbeglmfaaGreatDoor.S11 Go.Proofs.YtieiiabbeglmfaaGreatDoor.S12 Go.Proofs.YtieiiabbeglmfaaGreatDoor.S13 Go.Proofs.YtieiiabbeglmfaaGreatDoor.S14 Go.Proofs.YtieiiabbeglmfaaGreatDoor.S15 Go.Proofs.YtieiiabbeglmfaaGreatDoor.S16 Go.Proofs.YtieiiabbeglmfaaGreatDoor.S18
open Go.RowKit
def SlpAll (ks : List Nat) (n : Nat) (L : List Rows) (Bs : List Nat) : Prop := L.length = n ∧ Bs.length = n ∧ ∀ i, i < n → ∃ l E F, L[i]? = some l ∧ Slp l ⟨8, sD ks i, 2, bktN (kyN ks[i]!) 2, E, F, 0, 0⟩ Bs[i]!
theorem SlpAll.next {ks : List Nat} {n : Nat} {L : List Rows} {Bs : List Nat} (h : SlpAll ks n L Bs) {l : Rows} {E : En} {F : Fr} {B : Nat} (s : Slp l ⟨8, sD ks n, 2, bktN (sD ks n).k 2, E, F, 0, 0⟩ B) : SlpAll ks (n + 1) (L ++ [l]) (Bs ++ [B]) := by
  obtain ⟨h1, h2, h3⟩ := h
  refine ⟨by simp [h1], by simp [h2], fun i hi => ?_⟩
  by_cases hin : i < n
  · obtain ⟨l', E', F', g1, g2⟩ := h3 i hin
    refine ⟨l', E', F', by rw [List.getElem?_append_left (by omega)]; exact g1, ?_⟩
    rw [getElem!_pos (Bs ++ [B]) i (by simp; omega), List.getElem_append_left (by omega)]
    rw [getElem!_pos Bs i (by omega)] at g2
    exact g2
  · obtain rfl : i = n := by omega
    refine ⟨l, E, F, by rw [List.getElem?_append_right (by omega), h1, Nat.sub_self]; rfl, ?_⟩
    rw [getElem!_pos (Bs ++ [B]) i (by simp; omega), List.getElem_append_right (by omega)]
    simp only [h2, Nat.sub_self, List.getElem_cons_zero]
    exact s
section
variable {w0 w w' : World} {base WB : Nat} {M : Sd} {H : List Part}
theorem sleeping_any {ks : List Nat} {A : Option Addr} {c k : Nat} {ta : Nat → Int} {T : Nat} (hT : Tab w0) (hb : 0 < base) (h : AllS w0 w base WB M (noP :: H) []) (wn : Wn M (fun _ => []) ta T k) (hk : k ≤ 1000) (hn : ks.length ≤ 60) (hks : ∀ i, i < ks.length → ks[i]! < 256)
    (hin : ∀ W M' p L', AllS w0 W base WB M' (p :: H) L' → ∀ i, i < ks.length → ∃ g o, A = some ⟨g, o, none⟩ ∧ W.cell? ⟨g, o + i, none⟩ = some (.int .u8 (ks[i]! : Int))) :
    Calls Tryz.prog 27 #[Pw WB, .slice A ks.length c] w fun e' w' => ∃ v M' L Bs, e' = .returned v ∧ AllS w0 w' base WB M' (intsP v ks.length (ptrs Bs) :: H) L ∧ SlpAll ks ks.length L Bs ∧ Wn M' (sQ ks ks.length) ta T (k + 10 * ks.length) ∧ (∀ i, i < ks.length → M'.pf (2 * i) = ⟨false, true, false, 0⟩) ∧ M'.tk = M.tk ∧ (∀ b : Int, b ≠ 2 → M'.m b = M.m b) ∧ M'.D = M.D ∧ M'.most = M.most := by
  have h1 : AllS w0 w base WB M (intsP (.slice none 0 0) 0 [] :: H) [] := h.turnH (a := 0) rfl (intsP (.slice none 0 0) 0 []) (S10.row_nil _ _ _) (Turns.refl _ _) (fun k e => by cases e)
  have HH := Lib.hid h1; have HT := Lib.hid (And.intro hT hb); have HWN := Lib.hid wn; have HK := Lib.hid (And.intro hk hn); have HKS := Lib.hid hks; have HIN := Lib.hid hin
  obtain ⟨n, hnn⟩ : ∃ n, n = ks.length := ⟨_, rfl⟩
  rw [← hnn] at HK HKS HIN ⊢
  have HN := Lib.hid hnn
  clear h h1 hT hb wn hk hn hks hin hnn
  go_enter Tryz.func27, Tryz.ntmps27
  go_wp2_with fail
  go_loopg [5, 6, 7] n (fun q s5 s6 s7 wx => ∃ (i : Nat) (M' : Sd) (L : List Rows) (Bs : List Nat), i ≤ n ∧ q = n - i ∧ s6 = .int .i64 (i : Int) ∧ AllS w0 wx base WB M' (intsP s5 i (ptrs Bs) :: H) L ∧ SlpAll ks i L Bs ∧ Wn M' (sQ ks i) ta T (k + 10 * i) ∧ (∀ j, j < i → M'.pf (2 * j) = ⟨false, true, false, 0⟩) ∧ M'.tk = M.tk ∧ (∀ b : Int, b ≠ 2 → M'.m b = M.m b) ∧ M'.D = M.D ∧ M'.most = M.most)
  case atStart => exact ⟨0, M, [], [], by omega, by omega, rfl, HH.out, ⟨rfl, rfl, fun i hi => by omega⟩, HWN.out, fun j hj => by omega, rfl, fun b _ => rfl, rfl, rfl⟩
  case round =>
    obtain ⟨i, M', L, Bs, hi, rfl, rfl, ha, hs, hw, hpf, htk, hmx, hdm⟩ := hrel
    have HA := Lib.hid ha; have HS := Lib.hid hs; have HW := Lib.hid hw; have HPF := Lib.hid hpf; have HTK := Lib.hid htk; have HMX := Lib.hid hmx; have HDM := Lib.hid hdm; have HI0 := Lib.hid hi
    clear ha hs hw hpf htk hmx hdm
    have hr0 : S10.Row wr 0 1 u5 i (ptrs Bs) := HA.out.partH (a := 0) rfl
    obtain ⟨A5, c5, hs5, h5c, h5m⟩ := hr0.shape
    subst hs5
    clear hr0
    by_cases hin : i < n
    · obtain ⟨g, og, rfl, hc⟩ := HIN.out _ _ _ _ HA.out i hin
      obtain ⟨b, hbb⟩ : ∃ b, b = ks[i]! := ⟨_, rfl⟩
      have hb256 := HKS.out i hin
      rw [← hbb] at hc hb256
      have d1 : decide ((i : Int) < (n : Int)) = true := decide_eq_true (by omega)
      have d2 : decide (i < n) = true := decide_eq_true hin
      obtain ⟨bm, hbm⟩ : ∃ bm, bm = b % 4 := ⟨_, rfl⟩
      obtain ⟨k4, hk4⟩ : ∃ k4, k4 = 4 * bm := ⟨_, rfl⟩
      have x1 : (b : Int).tmod 4 = (bm : Int) := by rw [Int.tmod_eq_emod_of_nonneg (by omega)]; omega
      have x1' : (b : Int) % 4 = (bm : Int) := by omega
      have x2 : IntKind.u8.wrap (bm : Int) = (bm : Int) := by rw [IntKind.wrap_u8]; omega
      have x3 : IntKind.u32.wrap (bm : Int) = (bm : Int) := by rw [IntKind.wrap_u32]; omega
      have x4 : IntKind.u32.wrap (4 * (bm : Int)) = (k4 : Int) := by rw [IntKind.wrap_u32]; omega
      have x5 : IntKind.u32.wrap (1152 + (k4 : Int)) = ((kyN b : Nat) : Int) := by rw [IntKind.wrap_u32]; unfold kyN; omega
      have x6 : IntKind.u64.wrap (i : Int) = (i : Int) := by rw [IntKind.wrap_u64]; have := HK.out; omega
      have hD : sD ks i = ⟨i, kyN b, i, false, 0, none⟩ := by unfold sD; rw [← hbb]
      have hi60 : i < 60 := by have := HK.out; omega
      have hk32 : kyN b < 4294967296 := by unfold kyN; omega
      have hnew := HA.out.newpark (v := .nilIface) (D := ⟨i, kyN b, i, false, 0, none⟩) (.inr ⟨rfl, rfl⟩) rfl (by show i < 64; omega) hk32
      have HNEW : Hid (Calls Tryz.prog 11 #[.int .i64 (i : Int), .int .u32 ((kyN b : Nat) : Int), .int .u64 (i : Int), .agg #[.bool false, .int .u64 0], .nilIface] wr _) := Lib.hid hnew
      have HD := Lib.hid hD; have HI := Lib.hid (And.intro hin (And.intro hi60 hk32))
      clear hnew hbb hb256 hD hi60 hk32 hbm hk4
      generalize kyN b = ky at *
      go_upto_region 6 with (go_at_call 11; refine HNEW.out.mono ?_; rintro e w2 ⟨B, rfl, h2⟩; have H2 := Lib.hid h2; clear h2)
      clear HNEW x1 x1' x2 x3 x4 x5 x6 hc d1 d2
      have hsl := sleep_s (D := ⟨i, ky, i, false, 0, none⟩) HT.out.1 HT.out.2 HW.out (by have := HI.out.2.1; have := HK.out.1; omega) (fun b => Nat.le_trans (sQ_len ks i b) (by have := HI.out.2.1; omega)) (by show i < 64; have := HI.out.2.1; omega) HI.out.2.2 rfl rfl H2.out
      have HSL : Hid (Calls Tryz.prog 12 #[Pw WB, Pw B, .int .i64 (i : Int)] w2 _) := Lib.hid hsl
      clear hsl
      go_wp2_with (first
        | (go_at_call 12; refine HSL.out.mono ?_; rintro e w3 ⟨rfl, M4, l4, E4, F4, h4, hs4, hw4, hp4, hpf4, htk4, hpe4, hmx4, hdm4⟩; have H4 := Lib.hid h4; have HS4 := Lib.hid hs4; have HW4 := Lib.hid hw4; have HP4 := Lib.hid (And.intro hpf4 (And.intro htk4 (And.intro hpe4 (And.intro hmx4 hdm4)))); have hr0 : S10.Row w3 0 1 (.slice A5 i c5) i (ptrs Bs) := h4.partH (a := 0) rfl; clear h4 hs4 hw4 hp4 hpf4 htk4 hpe4 hmx4 hdm4)
        | (at_builtin; refine S10.wpList_append_row layP rfl _ _ rfl rfl (hr0.alloc _) (fun u hu => by obtain ⟨x, _, rfl⟩ := List.mem_map.1 hu; rfl) (Nat.zero_le _) 1 rfl (S10.rd_one1 w3 (Pw B) 32) rfl (fun u hu => by rw [List.mem_singleton] at hu; rw [hu]; rfl) (by have := HI.out.2.1; omega) ?_; intro v5 w5 hr5 ht5 ho5; have H5 := Lib.hid (H4.out.app (a := 0) rfl (below1 w3 _) hr5 ht5 ho5); clear hr5 ht5 ho5))
      go_roundg (n - (i + 1))
      case measure => have := HI.out.1; omega
      case rel =>
        have h9 := HI.out.1
        have h8 := HI.out.2.1
        have e3 : ptrs (Bs ++ [B]) = ptrs Bs ++ [Pw B] := by unfold ptrs; rw [List.map_append]; rfl
        have hq := sQ_next ks i
        rw [HD.out] at hq
        refine ⟨i + 1, M4, L ++ [l4], Bs ++ [B], h9, by omega, congrArg (Value.int .i64) (by first | omega | (unfold wrap64; omega)), ?_, HS.out.next (E := E4) (F := F4) (by rw [HD.out]; exact HS4.out), ?_, fun j hj => ?_, HP4.out.2.1.trans HTK.out, fun b hb => (HP4.out.2.2.2.1 b hb).trans (HMX.out b hb), HP4.out.2.2.2.2.1.trans HDM.out.1, HP4.out.2.2.2.2.2.trans HDM.out.2⟩
        · rw [e3]; exact H5.out
        · rw [← hq]; exact HW4.out.mono (by omega)
        · by_cases hji : j = i
          · rw [hji]; exact HP4.out.2.2.1
          · rw [HP4.out.1 (2 * j) (by show 2 * j ≠ 2 * i; omega)]
            exact HPF.out j (by omega)
    · obtain rfl : i = n := by have := HI0.out; omega
      have d1 : decide ((i : Int) < (i : Int)) = false := decide_eq_false (by omega)
      have d2 : decide (i < i) = false := decide_eq_false (by omega)
      go_wp2_with fail
      go_ret
      exact ⟨_, M', L, Bs, rfl, HA.out, HS.out, HW.out, HPF.out, HTK.out, HMX.out, HDM.out.1, HDM.out.2⟩
end
end Go.Proofs.YtieiiabbeglmfaaGreatDoor.S19
set_option linter.unusedVariables false
set_option linter.unusedSimpArgs false
namespace Go.Proofs.YtieiiabbeglmfaaGreatDoor.S10
set_option maxRecDepth 100000
set_option maxHeartbeats 16000000
open Go.Proofs.YtieiiabbeglmfaaGreatDoor Go.Proofs.YtieiiabbeglmfaaGreatDoor.S11 Go.Proofs.YtieiiabbeglmfaaGreatDoor.S12 Go.Proofs.YtieiiabbeglmfaaGreatDoor.S13 Go.Proofs.YtieiiabbeglmfaaGreatDoor.S14 Go.Proofs.YtieiiabbeglmfaaGreatDoor.S15 Go.Proofs.YtieiiabbeglmfaaGreatDoor.S16
open Go.RowKit
def plQ (b i t : Int) (q : List Ent) : List (Int × Int) := (q.filter fun e => decide (e.t = t)).map fun _ => (b, i)
def plT (b t : Int) (L : List Bk) (k : Nat) : List (Int × Int) := (List.range k).flatMap fun i => plQ b (i : Nat) t L[i]!.q
def plM (M : Int → List Bk) (t : Int) (k : Nat) : List (Int × Int) := (List.range k).flatMap fun j => plT ((j + 2 : Nat) : Int) t (M ((j + 2 : Nat) : Int)) (M ((j + 2 : Nat) : Int)).length
def pcs (p : Int × Int) : List Value := [.int .i64 p.1, .int .i64 p.2]
def pflat (D : List (Int × Int)) : List Value := D.flatMap pcs
theorem pflat_app (D E : List (Int × Int)) : pflat (D ++ E) = pflat D ++ pflat E := by simp [pflat]
theorem pflat_one (D : List (Int × Int)) : ∀ u ∈ pflat D, u.oneCell' = true := fun u hu => by
  simp only [pflat, List.mem_flatMap] at hu
  obtain ⟨e, _, hu⟩ := hu
  simp [pcs] at hu
  rcases hu with rfl | rfl <;> rfl
theorem plQ_len (b i t : Int) (q : List Ent) : (plQ b i t q).length ≤ q.length := by
  unfold plQ
  rw [List.length_map]
  exact List.length_filter_le _ _
theorem plQ_snoc (b i t : Int) (q : List Ent) (e : Ent) : plQ b i t (q ++ [e]) = if e.t = t then plQ b i t q ++ [(b, i)] else plQ b i t q := by
  unfold plQ
  rw [List.filter_append, List.map_append]
  by_cases h : e.t = t
  · simp [h]
  · simp [h]
theorem plT_succ (b t : Int) (L : List Bk) (k : Nat) : plT b t L (k + 1) = plT b t L k ++ plQ b (k : Nat) t L[k]!.q := by
  unfold plT
  rw [List.range_succ, List.flatMap_append]
  simp
theorem plM_succ (M : Int → List Bk) (t : Int) (k : Nat) : plM M t (k + 1) = plM M t k ++ plT ((k + 2 : Nat) : Int) t (M ((k + 2 : Nat) : Int)) (M ((k + 2 : Nat) : Int)).length := by
  unfold plM
  rw [List.range_succ, List.flatMap_append]
  simp
theorem plT_len (b t : Int) (L : List Bk) (h : ∀ i, i < L.length → L[i]!.q.length ≤ 100) : ∀ k, k ≤ L.length → (plT b t L k).length ≤ k * 100
  | 0, _ => by simp [plT]
  | k + 1, hk => by
    rw [plT_succ, List.length_append]
    have := plT_len b t L h k (by omega)
    have := plQ_len b (k : Nat) t L[k]!.q
    have := h k (by omega)
    omega
theorem plM_len (M : Int → List Bk) (t : Int) (hl : ∀ b, (M b).length ≤ 256) (h : ∀ b i, i < (M b).length → (M b)[i]!.q.length ≤ 100) : ∀ k, (plM M t k).length ≤ k * 25600
  | 0 => by simp [plM]
  | k + 1 => by
    rw [plM_succ, List.length_append]
    have h1 := plM_len M t hl h k
    have h2 := plT_len ((k + 2 : Nat) : Int) t (M ((k + 2 : Nat) : Int)) (h _) _ (Nat.le_refl _)
    have h3 := hl ((k + 2 : Nat) : Int)
    omega
theorem infoPl : ∃ i, Tryz.prog.info? 97 = some i ∧ i.zero = some (.agg #[.int .i64 0, .int .i64 0]) ∧ i.size = 2 ∧ i.bytes = 16 := info_of (by kernel_rfl)
theorem layPl : Lay 89 97 2 16 (.agg #[.int .i64 0, .int .i64 0]) := ⟨Tryz.underlying89, infoPl, rfl, by decide, by decide⟩
theorem rd_pair (w : World) (b i : Int) (T : TypeId) : Rd (w.alloc (.cells #[.int .i64 b, .int .i64 i] T)) (w.heap.size + 1) (some ⟨w.heap.size, 0, none⟩) (pflat [(b, i)]) := fun _ => by
  refine ⟨w.heap.size, 0, rfl, by omega, fun j u e => ?_⟩
  have hnew := heap_alloc_new w (.cells #[.int .i64 b, .int .i64 i] T)
  rw [cell_row hnew, Nat.zero_add]
  simpa [pflat, pcs] using e
theorem rd_pair' (w : World) (b i : Int) (T : TypeId) {X : Nat} (h : w.heap.size = X) : Rd (w.alloc (.cells #[.int .i64 b, .int .i64 i] T)) (X + 1) (some ⟨X, 0, none⟩) (pflat [(b, i)]) := h ▸ rd_pair w b i T
theorem clipP_any (A : Option Addr) (n cap : Nat) (w : World) (h : n ≤ cap) (hc : cap ≤ 9223372036854775807) : Calls Tryz.prog 80 #[.slice A n cap] w fun e w' => e = .returned (.slice A n n) ∧ w = w' := by
  go_enter Tryz.func80, Tryz.ntmps80
  go_wp2
  go_ret
  exact ⟨by simp, rfl⟩
abbrev RowP (w : World) (base : Nat) (s : Value) (D : List (Int × Int)) : Prop := Row w base 2 s D.length (pflat D)
theorem places_any {w : World} {s : Value} {F : Int → Value} {M : Int → List Bk} (h : Rs w s F M) (t : Int) (hl : ∀ b, (M b).length ≤ 256) (hfew : ∀ b i, i < (M b).length → (M b)[i]!.q.length ≤ 100) :
    Calls Tryz.prog 30 #[s, .int .i64 t] w fun e w' => ∃ A, e = .returned (.slice A (plM M t 7).length (plM M t 7).length) ∧ RowP w' w.heap.size (.slice A (plM M t 7).length (plM M t 7).length) (plM M t 7) ∧ Below w.heap.size w w' := by
  have HR := Lib.hid h; have HL := Lib.hid hl; have HFEW := Lib.hid hfew
  clear h hl hfew
  go_enter Tryz.func30, Tryz.ntmps30
  go_wp2_with fail
  go_loopg [5, 6] 7 (fun q s5 s6 wx => ∃ k : Nat, k ≤ 7 ∧ q = 7 - k ∧ s6 = .int .i64 ((k + 2 : Nat) : Int) ∧ RowP wx w.heap.size s5 (plM M t k) ∧ Below w.heap.size w wx)
  case atStart => exact ⟨0, by omega, rfl, rfl, row_nil _ _ _, Below.refl _ _⟩
  case round =>
    obtain ⟨k, hk, rfl, rfl, hrow, hb⟩ := hrel
    have HROW := Lib.hid hrow; have HB := Lib.hid hb
    clear hrow hb
    obtain ⟨wo, rfl⟩ : ∃ wo : World, wo = wr := ⟨_, rfl⟩
    by_cases hk7 : k < 7
    · obtain ⟨b, hbk⟩ : ∃ b : Int, b = ((k + 2 : Nat) : Int) := ⟨_, rfl⟩
      have HBK := Lib.hid hbk
      have hb8 : b ≤ 8 := by omega
      have hbI : InI b := by unfold InI; omega
      rw [← hbk]
      obtain ⟨A, c, V, hF, hc, hc9, -⟩ := HR.out.rd b
      have HT := table_any (HR.out.below HB.out).sv hbI
      rw [hF] at HT
      have HT := Lib.hid HT
      obtain ⟨L, hL⟩ : ∃ L, L = M b := ⟨_, rfl⟩
      have hLl := HL.out b
      rw [← hL] at hc hLl HT
      obtain ⟨m, hm⟩ : ∃ m, m = L.length := ⟨_, rfl⟩
      rw [← hm] at hc hLl HT
      have HLM := Lib.hid hL; have HM := Lib.hid hm; have HF := Lib.hid hF; have HC := Lib.hid hc; have HC9 := Lib.hid hc9
      obtain ⟨D, hD⟩ : ∃ D, D = plM M t k := ⟨_, rfl⟩
      rw [← hD] at HROW
      have HD := Lib.hid hD
      clear hbk hF hc hc9 hL hm hD
      go_wp2_with (go_at_call 79; refine HT.out.mono ?_; rintro e w' ⟨rfl, rfl⟩)
      go_loopg [5, 19] m (fun q s5 s19 wx => ∃ i : Nat, i ≤ m ∧ q = m - i ∧ s19 = .int .i64 (i : Int) ∧ RowP wx w.heap.size s5 (D ++ plT b t L i) ∧ Below w.heap.size w wx)
      case atStart => exact ⟨0, by omega, rfl, rfl, by simpa [plT] using HROW.out, HB.out⟩
      case round =>
        obtain ⟨i, hi, rfl, rfl, hrow2, hb2⟩ := hrel
        have HROW2 := Lib.hid hrow2; have HB2 := Lib.hid hb2
        clear hrow2 hb2
        obtain ⟨wm, rfl⟩ : ∃ wm : World, wm = wr := ⟨_, rfl⟩
        by_cases him : i < m
        · obtain ⟨g, o, c', A', c2, hF2, k0', k1', k2', hg, h7, h8, h9⟩ := HR.out.bk (b := b) (i := i) (by rw [← HLM.out, ← HM.out]; exact him)
          rw [HF.out] at hF2
          cases hF2
          have k0 := (HB2.out.cell (p := ⟨g, o + i * 3, none⟩) hg).trans k0'
          have k1 := (HB2.out.cell (p := ⟨g, o + i * 3 + 1, none⟩) hg).trans k1'
          have k2 := (HB2.out.cell (p := ⟨g, o + i * 3 + 2, none⟩) hg).trans k2'
          clear k0' k1' k2'
          rw [← HLM.out] at k0 k1 k2 h7 h9
          obtain ⟨Q, hQ⟩ : ∃ Q, Q = L[i]!.q := ⟨_, rfl⟩
          rw [← hQ] at k2 h7 h9
          generalize L[i]!.a = ta at k0
          generalize L[i]!.f = tf at k1
          obtain ⟨mq, hmq⟩ : ∃ mq, mq = Q.length := ⟨_, rfl⟩
          rw [← hmq] at k2 h7
          have hmq9 : mq ≤ 9223372036854775807 := by omega
          have HQ := Lib.hid hQ; have HMQ := Lib.hid hmq; have H9 := Lib.hid h9; have H7 := Lib.hid h7; have H8 := Lib.hid h8
          clear hQ hmq h9 h7 h8
          clear HT
          go_wp2_with fail
          go_loopg [5, 27] mq (fun q s5 s27 wx => ∃ j : Nat, j ≤ mq ∧ q = mq - j ∧ s27 = .int .i64 (j : Int) ∧ RowP wx w.heap.size s5 (D ++ plT b t L i ++ plQ b (i : Nat) t (Q.take j)) ∧ Below w.heap.size w wx)
          case atStart => exact ⟨0, by omega, rfl, rfl, by rw [List.take_zero, show plQ b (i : Nat) t [] = [] from rfl, List.append_nil]; exact HROW2.out.new (below1 wm _), HB2.out.trans ((below1 wm _).mono HB2.out.size)⟩
          case round =>
            obtain ⟨j, hj, rfl, rfl, hrow3, hb3⟩ := hrel
            have HROW3 := Lib.hid hrow3; have HB3 := Lib.hid hb3
            clear hrow3 hb3
            by_cases hjm : j < mq
            · obtain ⟨g3, o3, rfl, hg3, q0, q1, q2⟩ := (H9.out.below HB3.out (Nat.le_refl _)).ent (i := j) (by have := HMQ.out; omega)
              have htk := take_snoc (D := Q) (k := j) (by have := HMQ.out; omega)
              obtain ⟨d, hd⟩ : ∃ d, d = Q[j]! := ⟨_, rfl⟩
              rw [← hd] at htk q0 q1 q2
              have hpq := plQ_snoc b (i : Nat) t (Q.take j) d
              rw [← htk] at hpq
              obtain ⟨P, hP⟩ : ∃ P, P = D ++ plT b t L i ++ plQ b (i : Nat) t (Q.take j) := ⟨_, rfl⟩
              have hPl : P.length ≤ 999999 := by
                have e1 := plM_len M t HL.out HFEW.out k
                have e2 := plT_len b t L (by rw [HLM.out]; exact HFEW.out b) i (by have := HM.out; omega)
                have e3 := plQ_len b (i : Nat) t (Q.take j)
                have e5 := HFEW.out b i (by rw [← HLM.out, ← HM.out]; exact him)
                rw [← HLM.out, ← HQ.out] at e5
                have e6 := HL.out b
                rw [← HLM.out] at e6
                rw [hP, List.length_append, List.length_append, HD.out]
                rw [List.length_take] at e3
                have := HM.out
                omega
              have HP := Lib.hid hP; have HPQ := Lib.hid hpq
              rw [← hP] at HROW3
              clear hd htk hpq hP
              by_cases ht : d.t = t
              · have hdt : (d.t == t) = true := by simpa using ht
                rw [if_pos ht] at HPQ
                clear ht
                go_wp2_with (at_builtin; refine wpList_append_row layPl rfl _ _ rfl rfl ((HROW3.out.new (below1 _ _)).new (below1 _ _)) (pflat_one _) (by have := HB2.out.size; have := HB3.out.size; simp; omega) 1 rfl (rd_pair' _ b (i : Nat) 97 (by simp)) rfl (pflat_one _) (by simp; omega) ?_; intro v' w2 hr2 ht2 ho2; (have HR2 := Lib.hid hr2); (have HT2 := Lib.hid ht2); (clear hr2 ht2 ho2))
                go_roundg (mq - (j + 1))
                case measure => omega
                case rel =>
                  refine ⟨j + 1, by omega, rfl, by go_num, ?_, ?_⟩
                  · rw [HPQ.out, ← List.append_assoc, ← HP.out]
                    have := HR2.out
                    rw [← pflat_app] at this
                    unfold RowP
                    rw [List.length_append]
                    exact this
                  · have t3 := ((Turns.refl _ wr).alloc _ |>.alloc _).trans HT2.out (fun k _ e => e)
                    exact HB3.out.trans (t3.below HB3.out.size (fun k hk e => by have := (HROW3.out.lt k e).1; omega))
              · have hdt : (d.t == t) = false := by simpa using ht
                rw [if_neg ht] at HPQ
                clear ht
                go_wp2_with fail
                go_roundg (mq - (j + 1))
                case measure => omega
                case rel =>
                  refine ⟨j + 1, by omega, rfl, by go_num, ?_, HB3.out.trans ((below1 wr _).mono HB3.out.size)⟩
                  rw [HPQ.out, ← HP.out]
                  exact HROW3.out.new (below1 wr _)
            · obtain rfl : j = mq := by omega
              go_wp2_with fail
              go_roundg (m - (i + 1))
              case measure => omega
              case rel =>
                refine ⟨i + 1, by omega, rfl, by go_num, ?_, HB3.out⟩
                have := HROW3.out
                rw [HMQ.out, List.take_length, HQ.out, List.append_assoc, ← plT_succ] at this
                exact this
        · obtain rfl : i = m := by omega
          have e12 : IntKind.i64.wrap (b + 1) = b + 1 := by have := HBK.out; rw [IntKind.wrap_i64]; omega
          go_wp2_with fail
          go_roundg (7 - (k + 1))
          case measure => omega
          case rel =>
            refine ⟨k + 1, by omega, rfl, ?_, ?_, HB2.out⟩
            · rw [HBK.out]; go_num
            · have := HROW2.out
              rw [HM.out, HLM.out, HD.out, HBK.out, ← plM_succ] at this
              exact this
    · obtain rfl : k = 7 := by omega
      obtain ⟨A, c, rfl, hc, hc9⟩ := HROW.out.shape
      go_wp2_with (go_at_call 80; refine (clipP_any _ _ _ _ hc hc9).mono ?_; rintro e w' ⟨rfl, rfl⟩)
      go_ret
      exact ⟨A, rfl, HROW.out.clip, HB.out⟩
end Go.Proofs.YtieiiabbeglmfaaGreatDoor.S10
