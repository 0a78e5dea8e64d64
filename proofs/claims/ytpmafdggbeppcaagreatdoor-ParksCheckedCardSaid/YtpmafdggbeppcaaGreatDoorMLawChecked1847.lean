/- Texts of this seat, one behind the other. -/
import Derived.Test.YtpmafdggbeppcaaGreatDoorMLawChecked1846
import Derived.LoopTactic
import Derived.Deep.LoopGhost
import Derived.Deep.RegionLaw
set_option linter.unusedVariables false
set_option linter.unusedSimpArgs false
set_option linter.unusedVariables false
set_option linter.unusedSimpArgs false
namespace Go.Proofs.YtpmafdggbeppcaaGreatDoor.S18
open Go.Proofs.YtpmafdggbeppcaaGreatDoor Go.Proofs.YtpmafdggbeppcaaGreatDoor.S11 Go.Proofs.YtpmafdggbeppcaaGreatDoor.S12 Go.Proofs.YtpmafdggbeppcaaGreatDoor.S13 Go.Proofs.YtpmafdggbeppcaaGreatDoor.S14 Go.Proofs.YtpmafdggbeppcaaGreatDoor.S15 Go.Proofs.YtpmafdggbeppcaaGreatDoor.S16
open Go.RowKit

theorem leftA (c : Ck) : leftQ 4 ([] ++ [entD (D4 c)]) = [] := rfl
theorem leftB (c : Ck) : leftQ 4 ([entD D9] ++ [entD (D4 c)]) = [entD D9] := rfl
section
variable {M : Sd} {a pi st k : Nat} {Q : List S10.Ent} {c : Ck}
theorem g7_at (wd : Wd M a pi (Q ++ [entD (D4 c)]) st k) : g7 (M.tick 3) (D4 c) a pi = !decide (0 ≤ S10.idx (S10.byKey 1024) (leftQ 4 (Q ++ [entD (D4 c)]))) := by
  unfold g7 goneB
  have e : qAt ((m6 (M.tick 3) (D4 c) a).late (2 * (D4 c).t)) ((2 : Nat) : Int) pi = Q ++ [entD (D4 c)] := wd.pl.q
  rw [e]
  rfl
theorem ltM_pl (wd : Wd M a pi (Q ++ [entD (D4 c)]) st k) (hca : c.a = 1024) (hst : st < 256) (hkw : S2.look M.L 68 = 1024) : Pl (ltM (M.tick 3) (D4 c) a pi) 1024 a pi (leftQ 4 (Q ++ [entD (D4 c)])) := by
  have pl3 : Pl (M.tick 3) (D4 c).k a pi (Q ++ [entD (D4 c)]) := ⟨wd.pl.x, wd.pl.ae, wd.pl.a0, wd.pl.pe, wd.pl.len, wd.pl.q, wd.pl.sp⟩
  have ha := wd.pl.ain
  have ha2 := lok_in 1024 2
  rw [← wd.pl.ae] at ha2
  have hl := fun b (hb : b ≠ 1024) => ltM_lookc (M := M.tick 3) (D := D4 c) pl3 (by show 4 < 64; omega) hkw rfl hca (by show S2.look M.L 1024 < 256; rw [wd.s]; exact hst) b hb
  have hm := ltM_m (M := M.tick 3) (D := D4 c) pl3
  have hr := @ltM_rest (M.tick 3) (D4 c) a pi
  exact ⟨by rw [hl 0 (by omega)]; exact wd.pl.x, wd.pl.ae, by rw [hl a (by omega)]; exact wd.pl.a0, wd.pl.pe, hm.1, hm.2, hr.2.1.trans wd.pl.sp⟩
theorem ltM_at (wd : Wd M a pi (Q ++ [entD (D4 c)]) st k) (hca : c.a = 1024) (hst : st < 256) (hkw : S2.look M.L 68 = 1024) : S2.look (ltM (M.tick 3) (D4 c) a pi).L 1024 = if g7 (M.tick 3) (D4 c) a pi = true ∧ ¬ c.clr = 0 then (st &&& S2.cpl c.clr) else st := by
  have pl3 : Pl (M.tick 3) (D4 c).k a pi (Q ++ [entD (D4 c)]) := ⟨wd.pl.x, wd.pl.ae, wd.pl.a0, wd.pl.pe, wd.pl.len, wd.pl.q, wd.pl.sp⟩
  exact ltM_1024 (M := M.tick 3) (D := D4 c) pl3 (by show 4 < 64; omega) hkw rfl hca wd.s hst
theorem and_cpl0 (hst : st < 256) : st &&& S2.cpl 0 = st := by
  show st &&& 18446744073709551615 = st
  rw [show 18446744073709551615 = 2 ^ 64 - 1 from rfl, Nat.and_two_pow_sub_one_eq_mod]
  exact Nat.mod_eq_of_lt (by omega)
theorem ltM_even (wd : Wd M a pi ([] ++ [entD (D4 c)]) st k) (hca : c.a = 1024) (hst : st < 256) (hkw : S2.look M.L 68 = 1024) : S2.look (ltM (M.tick 3) (D4 c) a pi).L 1024 = st &&& S2.cpl c.clr := by
  rw [ltM_at wd hca hst hkw, g7_at wd, leftA]
  by_cases h : c.clr = 0
  · rw [if_neg (fun hh => hh.2 h), h, and_cpl0 hst]
  · rw [if_pos ⟨rfl, h⟩]
theorem ltM_odd (wd : Wd M a pi ([entD D9] ++ [entD (D4 c)]) st k) (hca : c.a = 1024) (hst : st < 256) (hkw : S2.look M.L 68 = 1024) : S2.look (ltM (M.tick 3) (D4 c) a pi).L 1024 = st := by
  rw [ltM_at wd hca hst hkw, g7_at wd, leftB]
  exact if_neg (fun hh => absurd hh.1 (by decide))
end
section
variable {w0 w w' : World} {base WB : Nat} {M : Sd} {r : List Part} {X : Wm} {a pi st k : Nat} {Q : List S10.Ent}
theorem reads (h : Pg w0 w base WB M [] X) (pl : Pl M 1024 a pi Q) (hQ : ∀ i, i < Q.length → Q[i]!.k = ((1024 : Nat) : Int)) (hlen : Q.length ≤ 100) {A : Option Addr} {c b1 : Nat} (hr : S10.Rd w b1 A (Q.map iV)) (hb1 : b1 ≤ w.heap.size) :
    Calls Tryz.prog 30 #[Pw WB, .int .u32 1024] w fun e w' => ∃ A' c', e = .returned (.slice A' Q.length c') ∧ Below w.heap.size w w' ∧ Calls Tryz.prog 29 #[.slice A' Q.length c', .slice A Q.length c] w' fun e2 w2 => e2 = .returned (.bool true) ∧ Below w.heap.size w w2 := by
  refine (queue_of h pl (by omega) hQ hlen).mono ?_
  rintro e w' ⟨A', c', rfl, hrow, hb⟩
  refine ⟨A', c', rfl, hb, ?_⟩
  have hs := samel_ (L := Q.map iV) (c := c') (d := c) hrow.rd (hr.below hb hb1) (fun i hi => by
    have hi2 : i < Q.length := by rw [List.length_map] at hi; exact hi
    exact ⟨Q[i].t, by rw [List.getElem?_map, List.getElem?_eq_getElem hi2]; rfl⟩) (by rw [List.length_map]; omega) (Nat.le_refl _) (Nat.le_trans hb1 hb.size)
  rw [List.length_map] at hs
  refine hs.mono ?_
  rintro e2 w2 ⟨rfl, hb2⟩
  exact ⟨rfl, hb.trans (hb2.mono hb.size)⟩
end
set_option maxRecDepth 100000 in
set_option maxHeartbeats 4000000 in
theorem law_checked {st mo ca cl cn cc : Nat} (hst : st < 256) (hmo : mo < 256) (hcl : cl < 18446744073709551616) (hcn : cn < 18446744073709551616) (hcc : cc < 18446744073709551616) (w : World) (hT : Tab w) :
    Calls Tryz.prog 6 #[.int .u8 (st : Int), .int .u8 (mo : Int), .agg #[.int .u32 (ca : Int), .int .u64 (cl : Int), .int .u64 (cn : Int), .int .u64 (cc : Int)]] w fun e w' => e = .returned (.bool true) ∧ Below w.heap.size w w' := by
  have HW := Lib.hid (fun W => world_any 0 (by omega) W)
  have hq1 := heap_alloc_new w (.cells #[.int .u32 (ca : Int), .int .u64 (cl : Int), .int .u64 (cn : Int), .int .u64 (cc : Int)] 108)
  have hb1 := below1 w (.cells #[.int .u32 (ca : Int), .int .u64 (cl : Int), .int .u64 (cn : Int), .int .u64 (cc : Int)] 108)
  obtain ⟨CB, hCB⟩ : ∃ CB, CB = w.heap.size := ⟨_, rfl⟩
  rw [← hCB] at hq1
  obtain ⟨w1, hw1⟩ : ∃ w1, w1 = w.alloc (.cells #[.int .u32 (ca : Int), .int .u64 (cl : Int), .int .u64 (cn : Int), .int .u64 (cc : Int)] 108) := ⟨_, rfl⟩
  rw [← hw1] at hq1 hb1
  have hs1 : CB < w1.heap.size := heap_lt hq1
  have HA := Lib.hid (And.intro hCB (And.intro hw1 (And.intro hq1 (And.intro hb1 hs1))))
  have HT := Lib.hid hT; have HST := Lib.hid hst; have HMO := Lib.hid hmo; have HCC := Lib.hid (And.intro hcl (And.intro hcn hcc))
  have ec : IntKind.u64.wrap (st : Int) = (st : Int) := by rw [IntKind.wrap_u64]; omega
  have em : (mo : Int).tmod 2 = ((mo % 2 : Nat) : Int) := by rw [Int.tmod_eq_emod_of_nonneg (by omega)]; omega
  have em1 : (mo : Int) % 2 = ((mo % 2 : Nat) : Int) := by omega
  have em2 : IntKind.u8.wrap ((mo % 2 : Nat) : Int) = ((mo % 2 : Nat) : Int) := by rw [IntKind.wrap_u8]; omega
  clear hCB hw1 hq1 hb1 hs1 hT hst hmo hcl hcn hcc
  go_enter Tryz.func6, Tryz.ntmps6
  go_upto_region 1 with fail
  rw [← HA.out.2.1, ← HA.out.1]
  go_upto_region 2 with (go_at_call 19; refine (HW.out _).mono ?_; rintro e w2 ⟨X, rfl, hp, h0, hb2⟩)
  have hq2 := (hb2.block CB HA.out.2.2.2.2).trans HA.out.2.2.1
  have z2 : w2.cell? ⟨CB, 0, none⟩ = some (.int .u32 (ca : Int)) := cell_row hq2 0
  have f2 := froz_row hq2 0
  have t3 : Turns (fun k => k = CB) w2 (w2.setCell ⟨CB, 0, none⟩ (.int .u32 1024)) := (Turns.refl (fun k => k = CB) w2).setCell ⟨CB, 0, none⟩ _ rfl
  have hp3 : PW (w2.setCell ⟨CB, 0, none⟩ (.int .u32 1024)) w1.heap.size X := Parts.kept hp t3 (fun i p hip k hk e => by have := hp.low i p hip k hk; have := HA.out.2.2.2.2; omega)
  have hq3 : (w2.setCell ⟨CB, 0, none⟩ (.int .u32 1024)).heap[CB]? = some (.cells #[.int .u32 1024, .int .u64 (cl : Int), .int .u64 (cn : Int), .int .u64 (cc : Int)] 108 (0, 0)) := set_blk hq2 0 (.int .u32 1024) _ rfl
  have hb3 : Below w.heap.size w (w2.setCell ⟨CB, 0, none⟩ (.int .u32 1024)) := (HA.out.2.2.2.1.trans (hb2.mono HA.out.2.2.2.1.size)).trans (t3.below (by have := hb2.size; have := HA.out.2.2.2.1.size; omega) (fun k hk e => by have := HA.out.1; omega))
  have hpg := pg_of hp3 (Below.refl w1.heap.size (w2.setCell ⟨CB, 0, none⟩ (.int .u32 1024)))
  rw [at0_sd h0, show ((0 % 17 : Nat) : Int) = 0 from rfl] at hpg
  have HX := Lib.hid (And.intro hpg (And.intro hq3 hb3))
  clear hp h0 hb2 hq2 t3 hp3 hq3 hb3 hpg HW
  go_upto_region 5 with fail
  clear z2 f2
  obtain ⟨WB, hWB⟩ : ∃ WB, WB = X.wB := ⟨_, rfl⟩
  generalize w2.setCell ⟨CB, 0, none⟩ (.int .u32 1024) = w3 at *
  rw [← hWB] at HX ⊢
  clear hWB
  have hcb := HX.out.1.c.1
  have hsto := HX.out.1.store (a := 1024) (v := st) (by omega) (by have := HST.out; omega) (by show 0 ≤ 1000000000; omega)
  have HSTO : Hid (Calls Tryz.prog 32 #[Pw X.cB, .int .u32 1024, .int .u64 (st : Int)] _ _) := Lib.hid hsto
  clear hsto
  go_upto_region 6 with (go_at_call 32; refine HSTO.out.mono ?_; rintro e w4 ⟨rfl, X4, h4, _⟩)
  obtain ⟨a, ha⟩ : ∃ a, a = lokN 1024 2 := ⟨_, rfl⟩
  obtain ⟨pi, hpi⟩ : ∃ pi, pi = bktN 1024 2 := ⟨_, rfl⟩
  have ha2 := lok_in 1024 2
  rw [← ha] at ha2
  have pl0 : Pl (sdN 0 5) 1024 a pi [] := sdN_pl ha hpi
  have wd4 : Wd ((sdN 0 5).acc 2 1024 st) a pi [] st 10 := ⟨⟨by rw [acc_other (by omega)]; exact pl0.x, pl0.ae, by rw [acc_other (by omega)]; exact pl0.a0, pl0.pe, pl0.len, pl0.q, pl0.sp⟩, by
    show S2.look (S2.putL (sdN 0 5).L 1024 (S2.bring 1024 st)) 1024 = st
    rw [S2.look_put_same, bring1024 HST.out], rfl, by show 1 ≤ 10; omega, by show 0 ≤ 10; omega, by show 0 ≤ 10; omega, rfl⟩
  have htb : Tab w3 := HT.out.below HX.out.2.2 HT.out.1
  have hb0 : 0 < w1.heap.size := by have := HA.out.2.2.2.2; omega
  have HTW := Lib.hid (And.intro htb hb0)
  have HEND : Hid (∀ (W : World) (Mx : Sd) (Xx : Wm), Pg w3 W w1.heap.size WB Mx [] Xx → ∀ W', Below W.heap.size W W' → Below w.heap.size w W') := Lib.hid (fun W Mx Xx hx W' b => HX.out.2.2.trans ((hx.bl.trans (b.mono hx.ps.size)).mono (by have := HA.out.2.2.2.1.size; omega)))
  have HCB : Hid (∀ (W : World) (Mx : Sd) (Xx : Wm), Pg w3 W w1.heap.size WB Mx [] Xx → ∀ W', Below W.heap.size W W' → W'.heap[CB]? = some (.cells #[.int .u32 1024, .int .u64 (cl : Int), .int .u64 (cn : Int), .int .u64 (cc : Int)] 108 (0, 0))) := Lib.hid (fun W Mx Xx hx W' b => by
    have hb := hx.bl.trans (b.mono hx.ps.size)
    exact (hb.block CB HA.out.2.2.2.2).trans HX.out.2.1)
  have HLV : Hid (∀ W', Below w.heap.size w W' → Calls Tryz.prog 18 #[] W' fun e w2 => e = .returned (.bool true) ∧ Below W'.heap.size W' w2) := Lib.hid (fun W' b => lives18 W' (HT.out.below b HT.out.1) (Nat.lt_of_lt_of_le HT.out.1 b.size))
  obtain ⟨M4, hM4⟩ : ∃ M4, M4 = (sdN 0 5).acc 2 1024 st := ⟨_, rfl⟩
  rw [← hM4] at h4 wd4
  have H4 := Lib.hid (And.intro h4 wd4)
  clear h4 wd4 hcb HSTO hM4 pl0 ha ha2 hpi htb hb0
  have hm2 : mo % 2 = 0 ∨ mo % 2 = 1 := by omega
  rcases hm2 with hm | hm
  · rw [hm] at em em1 em2
    go_upto_region 8 with fail
    have hQk : ∀ i, i < ([] : List S10.Ent).length → ([] : List S10.Ent)[i]!.k = ((1024 : Nat) : Int) := by
      intro i hi
      simp at hi
      try (subst hi; rfl)
    have hQl : ([] : List S10.Ent).length ≤ 100 := by simp
    have hqo := queue_of H4.out.1 H4.out.2.pl (by omega) hQk hQl
    have HQO : Hid (Calls Tryz.prog 30 #[Pw WB, .int .u32 1024] _ _) := Lib.hid hqo
    clear hqo
    go_upto_region 9 with (go_at_call 30; refine HQO.out.mono ?_; rintro e' w6 ⟨A6, c6, rfl, hrow6, hb6⟩; have HR6 := Lib.hid (And.intro hrow6 hb6); clear hrow6 hb6)
    clear HQO
    have hck := HCB.out _ _ _ H4.out.1 w6 HR6.out.2
    have k0 : w6.cell? ⟨CB, 0, none⟩ = some (.int .u32 1024) := cell_row hck 0
    have k1 : w6.cell? ⟨CB, 1, none⟩ = some (.int .u64 (cl : Int)) := cell_row hck 1
    have k2 : w6.cell? ⟨CB, 2, none⟩ = some (.int .u64 (cn : Int)) := cell_row hck 2
    have k3 : w6.cell? ⟨CB, 3, none⟩ = some (.int .u64 (cc : Int)) := cell_row hck 3
    have hn4 := new_4 (wq4 H4.out.1 HR6.out.2 HR6.out.1) (by show 2 < 4; omega) (c := ⟨1024, cl, cn, cc⟩) ⟨by show 1024 < 4294967296; omega, HCC.out.1, HCC.out.2.1, HCC.out.2.2⟩
    have HN4 : Hid (Calls Tryz.prog 8 #[.int .i64 4, .int .u32 1024, .int .u64 0, .agg #[.bool true, .int .u64 3], .iface 108 (.agg #[.int .u32 1024, .int .u64 (cl : Int), .int .u64 (cn : Int), .int .u64 (cc : Int)])] _ _) := Lib.hid hn4
    clear hn4 hck
    go_upto_region 10 with (go_at_call 8; refine HN4.out.mono ?_; rintro e' w8 ⟨B8, rfl, h8⟩)
    clear k0 k1 k2 k3
    obtain ⟨X8, hx8⟩ := h8.world
    have hck8 := HCB.out _ _ _ hx8 w8 (Below.refl _ _)
    have k1 : w8.cell? ⟨CB, 1, none⟩ = some (.int .u64 (cl : Int)) := cell_row hck8 1
    have k2 : w8.cell? ⟨CB, 2, none⟩ = some (.int .u64 (cn : Int)) := cell_row hck8 2
    clear hx8 hck8
    have HPR := Lib.hid h8
    have HWD := Lib.hid H4.out.2
    clear h8 HN4 H4
    have a1 := bits_and_u64_nat st cl (by have := HST.out; omega) HCC.out.1
    have a2 := bits_and_u64_nat st cn (by have := HST.out; omega) HCC.out.2.1
    have a3 := S2.andNot_nat st cc (by have := HST.out; omega) HCC.out.2.2
    have hho : Ck.holds ⟨1024, cl, cn, cc⟩ st = (decide (st &&& cl = cl) && (decide (cn = 0) || !decide (st &&& cn = 0))) := rfl
    have p1 := decN (st &&& cl) cl
    have p2 := decN0 cn
    have p3 := decN0 (st &&& cn)
    have q1 := beqI ((st &&& cl : Nat) : Int) (cl : Int)
    have q2 := beqI (cn : Int) 0
    have q3 : ((((st &&& cn : Nat) : Int)) != 0) = !decide (((st &&& cn : Nat) : Int) = 0) := rfl
    rw [p1] at q1
    rw [p2] at q2
    rw [p3] at q3
    generalize decide (st &&& cl = cl) = b1 at *
    generalize decide (cn = 0) = b2 at *
    generalize decide (st &&& cn = 0) = b3 at *
    generalize ((st &&& cl : Nat) : Int) = m1 at *
    generalize ((st &&& cn : Nat) : Int) = m2 at *
    cases b1 <;> cases b2 <;> cases b3
    · go_upto_region 11 with fail
      go_upto_region 12 with fail
      clear k1 k2
      have hrn := run_no (c := ⟨1024, cl, cn, cc⟩) HTW.out.1 HTW.out.2 HWD.out (by omega) (by simp) HST.out rfl hho HPR.out
      have HRN := Lib.hid hrn
      clear hrn hho
      go_upto_region 13 with (go_at_call 31; refine HRN.out.mono ?_; rintro e' w9 ⟨rfl, M9, P9, h9, ho9, wd9⟩)
      have hg9 : Calls Tryz.prog 9 #[Pw B8, Pw WB] w9 fun e w' => e = .returned (.tuple #[.int .u8 1, .int .u64 0]) ∧ w9 = w' := by
        have := h9.got (by rw [ho9]; omega) (Pw WB)
        rw [ho9] at this
        exact this
      have hpl9 := wd9.pl
      have hv9 := wd9.s
      obtain ⟨X9, hx9⟩ := h9.world
      have hrd := reads (c := c6) hx9 hpl9 hQk hQl h9.slice.rd (Nat.le_refl _)
      have hpk9 : ∀ W, Below w9.heap.size w9 W → W.cell? ⟨WB, 0, none⟩ = some (Pw X9.cB) ∧ Calls Tryz.prog 33 #[Pw X9.cB, .int .u32 1024] W fun e w' => e = .returned (.int .u64 (st : Nat)) ∧ W = w' := fun W b => ⟨(hx9.new b).c.1, by
        have := pg_peek (hx9.new b) (a := 1024) (by omega)
        rw [hv9] at this
        exact this⟩
      have hend : ∀ W, Below w9.heap.size w9 W → Below w.heap.size w W := fun W b => HEND.out _ _ _ hx9 W b
      have k9 : w9.cell? ⟨CB, 3, none⟩ = some (.int .u64 (cc : Int)) := cell_row (HCB.out _ _ _ hx9 w9 (Below.refl _ _)) 3
      have HG9 := Lib.hid hg9; have HR9 := Lib.hid hrd; have HK9 := Lib.hid hpk9; have HE9 := Lib.hid hend
      clear h9 hx9 hpl9 hv9 hg9 hrd hpk9 hend
      go_upto_region 14 with (go_at_call 9; refine HG9.out.mono ?_; rintro e' w10 ⟨rfl, rfl⟩)
      clear HG9
      go_wp2_with (first
        | (go_at_call 30; refine HR9.out.mono ?_; rintro e' w10 ⟨A10, c10, rfl, hb10, hs10⟩; have HS10 := Lib.hid hs10; clear hs10)
        | (go_at_call 29; refine HS10.out.mono ?_; rintro e' w11 ⟨rfl, hb11⟩; have hk11 := (HK9.out _ hb11).1; have HP11 := Lib.hid (HK9.out _ hb11).2; have HB11 := Lib.hid hb11; clear hb11)
        | (go_at_call 33; refine HP11.out.mono ?_; rintro e' w12 ⟨rfl, rfl⟩)
        | (go_at_call 18; refine (HLV.out _ (HE9.out _ HB11.out)).mono ?_; rintro e' w13 ⟨rfl, hb13⟩))
      go_ret
      exact ⟨rfl, (HE9.out _ HB11.out).trans (hb13.mono (HE9.out _ HB11.out).size)⟩
    · go_upto_region 11 with fail
      go_upto_region 12 with fail
      clear k1 k2
      have hrn := run_no (c := ⟨1024, cl, cn, cc⟩) HTW.out.1 HTW.out.2 HWD.out (by omega) (by simp) HST.out rfl hho HPR.out
      have HRN := Lib.hid hrn
      clear hrn hho
      go_upto_region 13 with (go_at_call 31; refine HRN.out.mono ?_; rintro e' w9 ⟨rfl, M9, P9, h9, ho9, wd9⟩)
      have hg9 : Calls Tryz.prog 9 #[Pw B8, Pw WB] w9 fun e w' => e = .returned (.tuple #[.int .u8 1, .int .u64 0]) ∧ w9 = w' := by
        have := h9.got (by rw [ho9]; omega) (Pw WB)
        rw [ho9] at this
        exact this
      have hpl9 := wd9.pl
      have hv9 := wd9.s
      obtain ⟨X9, hx9⟩ := h9.world
      have hrd := reads (c := c6) hx9 hpl9 hQk hQl h9.slice.rd (Nat.le_refl _)
      have hpk9 : ∀ W, Below w9.heap.size w9 W → W.cell? ⟨WB, 0, none⟩ = some (Pw X9.cB) ∧ Calls Tryz.prog 33 #[Pw X9.cB, .int .u32 1024] W fun e w' => e = .returned (.int .u64 (st : Nat)) ∧ W = w' := fun W b => ⟨(hx9.new b).c.1, by
        have := pg_peek (hx9.new b) (a := 1024) (by omega)
        rw [hv9] at this
        exact this⟩
      have hend : ∀ W, Below w9.heap.size w9 W → Below w.heap.size w W := fun W b => HEND.out _ _ _ hx9 W b
      have k9 : w9.cell? ⟨CB, 3, none⟩ = some (.int .u64 (cc : Int)) := cell_row (HCB.out _ _ _ hx9 w9 (Below.refl _ _)) 3
      have HG9 := Lib.hid hg9; have HR9 := Lib.hid hrd; have HK9 := Lib.hid hpk9; have HE9 := Lib.hid hend
      clear h9 hx9 hpl9 hv9 hg9 hrd hpk9 hend
      go_upto_region 14 with (go_at_call 9; refine HG9.out.mono ?_; rintro e' w10 ⟨rfl, rfl⟩)
      clear HG9
      go_wp2_with (first
        | (go_at_call 30; refine HR9.out.mono ?_; rintro e' w10 ⟨A10, c10, rfl, hb10, hs10⟩; have HS10 := Lib.hid hs10; clear hs10)
        | (go_at_call 29; refine HS10.out.mono ?_; rintro e' w11 ⟨rfl, hb11⟩; have hk11 := (HK9.out _ hb11).1; have HP11 := Lib.hid (HK9.out _ hb11).2; have HB11 := Lib.hid hb11; clear hb11)
        | (go_at_call 33; refine HP11.out.mono ?_; rintro e' w12 ⟨rfl, rfl⟩)
        | (go_at_call 18; refine (HLV.out _ (HE9.out _ HB11.out)).mono ?_; rintro e' w13 ⟨rfl, hb13⟩))
      go_ret
      exact ⟨rfl, (HE9.out _ HB11.out).trans (hb13.mono (HE9.out _ HB11.out).size)⟩
    · go_upto_region 11 with fail
      go_upto_region 12 with fail
      clear k1 k2
      have hrn := run_no (c := ⟨1024, cl, cn, cc⟩) HTW.out.1 HTW.out.2 HWD.out (by omega) (by simp) HST.out rfl hho HPR.out
      have HRN := Lib.hid hrn
      clear hrn hho
      go_upto_region 13 with (go_at_call 31; refine HRN.out.mono ?_; rintro e' w9 ⟨rfl, M9, P9, h9, ho9, wd9⟩)
      have hg9 : Calls Tryz.prog 9 #[Pw B8, Pw WB] w9 fun e w' => e = .returned (.tuple #[.int .u8 1, .int .u64 0]) ∧ w9 = w' := by
        have := h9.got (by rw [ho9]; omega) (Pw WB)
        rw [ho9] at this
        exact this
      have hpl9 := wd9.pl
      have hv9 := wd9.s
      obtain ⟨X9, hx9⟩ := h9.world
      have hrd := reads (c := c6) hx9 hpl9 hQk hQl h9.slice.rd (Nat.le_refl _)
      have hpk9 : ∀ W, Below w9.heap.size w9 W → W.cell? ⟨WB, 0, none⟩ = some (Pw X9.cB) ∧ Calls Tryz.prog 33 #[Pw X9.cB, .int .u32 1024] W fun e w' => e = .returned (.int .u64 (st : Nat)) ∧ W = w' := fun W b => ⟨(hx9.new b).c.1, by
        have := pg_peek (hx9.new b) (a := 1024) (by omega)
        rw [hv9] at this
        exact this⟩
      have hend : ∀ W, Below w9.heap.size w9 W → Below w.heap.size w W := fun W b => HEND.out _ _ _ hx9 W b
      have k9 : w9.cell? ⟨CB, 3, none⟩ = some (.int .u64 (cc : Int)) := cell_row (HCB.out _ _ _ hx9 w9 (Below.refl _ _)) 3
      have HG9 := Lib.hid hg9; have HR9 := Lib.hid hrd; have HK9 := Lib.hid hpk9; have HE9 := Lib.hid hend
      clear h9 hx9 hpl9 hv9 hg9 hrd hpk9 hend
      go_upto_region 14 with (go_at_call 9; refine HG9.out.mono ?_; rintro e' w10 ⟨rfl, rfl⟩)
      clear HG9
      go_wp2_with (first
        | (go_at_call 30; refine HR9.out.mono ?_; rintro e' w10 ⟨A10, c10, rfl, hb10, hs10⟩; have HS10 := Lib.hid hs10; clear hs10)
        | (go_at_call 29; refine HS10.out.mono ?_; rintro e' w11 ⟨rfl, hb11⟩; have hk11 := (HK9.out _ hb11).1; have HP11 := Lib.hid (HK9.out _ hb11).2; have HB11 := Lib.hid hb11; clear hb11)
        | (go_at_call 33; refine HP11.out.mono ?_; rintro e' w12 ⟨rfl, rfl⟩)
        | (go_at_call 18; refine (HLV.out _ (HE9.out _ HB11.out)).mono ?_; rintro e' w13 ⟨rfl, hb13⟩))
      go_ret
      exact ⟨rfl, (HE9.out _ HB11.out).trans (hb13.mono (HE9.out _ HB11.out).size)⟩
    · go_upto_region 11 with fail
      go_upto_region 12 with fail
      clear k1 k2
      have hrn := run_no (c := ⟨1024, cl, cn, cc⟩) HTW.out.1 HTW.out.2 HWD.out (by omega) (by simp) HST.out rfl hho HPR.out
      have HRN := Lib.hid hrn
      clear hrn hho
      go_upto_region 13 with (go_at_call 31; refine HRN.out.mono ?_; rintro e' w9 ⟨rfl, M9, P9, h9, ho9, wd9⟩)
      have hg9 : Calls Tryz.prog 9 #[Pw B8, Pw WB] w9 fun e w' => e = .returned (.tuple #[.int .u8 1, .int .u64 0]) ∧ w9 = w' := by
        have := h9.got (by rw [ho9]; omega) (Pw WB)
        rw [ho9] at this
        exact this
      have hpl9 := wd9.pl
      have hv9 := wd9.s
      obtain ⟨X9, hx9⟩ := h9.world
      have hrd := reads (c := c6) hx9 hpl9 hQk hQl h9.slice.rd (Nat.le_refl _)
      have hpk9 : ∀ W, Below w9.heap.size w9 W → W.cell? ⟨WB, 0, none⟩ = some (Pw X9.cB) ∧ Calls Tryz.prog 33 #[Pw X9.cB, .int .u32 1024] W fun e w' => e = .returned (.int .u64 (st : Nat)) ∧ W = w' := fun W b => ⟨(hx9.new b).c.1, by
        have := pg_peek (hx9.new b) (a := 1024) (by omega)
        rw [hv9] at this
        exact this⟩
      have hend : ∀ W, Below w9.heap.size w9 W → Below w.heap.size w W := fun W b => HEND.out _ _ _ hx9 W b
      have k9 : w9.cell? ⟨CB, 3, none⟩ = some (.int .u64 (cc : Int)) := cell_row (HCB.out _ _ _ hx9 w9 (Below.refl _ _)) 3
      have HG9 := Lib.hid hg9; have HR9 := Lib.hid hrd; have HK9 := Lib.hid hpk9; have HE9 := Lib.hid hend
      clear h9 hx9 hpl9 hv9 hg9 hrd hpk9 hend
      go_upto_region 14 with (go_at_call 9; refine HG9.out.mono ?_; rintro e' w10 ⟨rfl, rfl⟩)
      clear HG9
      go_wp2_with (first
        | (go_at_call 30; refine HR9.out.mono ?_; rintro e' w10 ⟨A10, c10, rfl, hb10, hs10⟩; have HS10 := Lib.hid hs10; clear hs10)
        | (go_at_call 29; refine HS10.out.mono ?_; rintro e' w11 ⟨rfl, hb11⟩; have hk11 := (HK9.out _ hb11).1; have HP11 := Lib.hid (HK9.out _ hb11).2; have HB11 := Lib.hid hb11; clear hb11)
        | (go_at_call 33; refine HP11.out.mono ?_; rintro e' w12 ⟨rfl, rfl⟩)
        | (go_at_call 18; refine (HLV.out _ (HE9.out _ HB11.out)).mono ?_; rintro e' w13 ⟨rfl, hb13⟩))
      go_ret
      exact ⟨rfl, (HE9.out _ HB11.out).trans (hb13.mono (HE9.out _ HB11.out).size)⟩
    · go_upto_region 11 with fail
      go_upto_region 15 with fail
      clear k1 k2
      have hsl := sleep_4 (c := ⟨1024, cl, cn, cc⟩) HTW.out.1 HTW.out.2 HWD.out (by omega) (by simp) HST.out rfl hho HPR.out
      have HSL := Lib.hid hsl
      clear hsl hho
      go_upto_region 17 with (first
        | (go_at_call 28; refine HSL.out.mono ?_; rintro e' w9 ⟨rfl, E9, F9, h9, wd9, hkw9⟩; obtain ⟨X9, hx9⟩ := h9.world; have hcb9 := hx9.c.1; have hpk9 := pg_peek hx9 (a := 1024) (by omega); rw [wd9.s] at hpk9; have HPK9 := Lib.hid hpk9; have HH9 := Lib.hid (And.intro h9 (And.intro wd9 hkw9)); clear h9 wd9 hkw9 hx9 hpk9)
        | (go_at_call 33; refine HPK9.out.mono ?_; rintro e' w10 ⟨rfl, rfl⟩))
      clear HPK9 HSL hcb9
      obtain ⟨Xt, rt, hxt, htk⟩ := HH9.out.1.op (f := 20) (args := fun X => #[Pw X.kB, .int .u64 ((3 : Nat) : Int)]) (v := fun _ e => e = .returned (.tuple #[])) (fun r X h => Pg.tick_ h 3 (by omega))
      have hkb := hxt.k1
      have HTK : Hid (Calls Tryz.prog 20 #[Pw Xt.kB, .int .u64 3] _ _) := Lib.hid htk
      clear hxt htk
      go_upto_region 18 with (go_at_call 20; refine HTK.out.mono ?_; rintro e' w11 ⟨rfl, h11⟩)
      clear hkb HTK
      have hrl := run_late (c := ⟨1024, cl, cn, cc⟩) HTW.out.1 HTW.out.2 HH9.out.2.1 (by omega) (by simp) HST.out rfl HH9.out.2.2 h11
      have HRL := Lib.hid hrl
      clear hrl h11
      go_upto_region 19 with (go_at_call 31; refine HRL.out.mono ?_; rintro e' w9 ⟨n9, hn0, hn9, rfl, P9, h9, ho9⟩)
      have hg9 : Calls Tryz.prog 9 #[Pw B8, Pw WB] w9 fun e w' => e = .returned (.tuple #[.int .u8 3, .int .u64 0]) ∧ w9 = w' := by
        have := h9.got (by rw [ho9]; omega) (Pw WB)
        rw [ho9] at this
        exact this
      have hpl9 := ltM_pl HH9.out.2.1 rfl HST.out HH9.out.2.2
      rw [leftA] at hpl9
      have hv9 := ltM_even HH9.out.2.1 rfl HST.out HH9.out.2.2
      obtain ⟨X9, hx9⟩ := h9.world
      have hrd := reads (c := c6) hx9 hpl9 hQk hQl h9.slice.rd (Nat.le_refl _)
      have hpk9 : ∀ W, Below w9.heap.size w9 W → W.cell? ⟨WB, 0, none⟩ = some (Pw X9.cB) ∧ Calls Tryz.prog 33 #[Pw X9.cB, .int .u32 1024] W fun e w' => e = .returned (.int .u64 (st &&& S2.cpl cc : Nat)) ∧ W = w' := fun W b => ⟨(hx9.new b).c.1, by
        have := pg_peek (hx9.new b) (a := 1024) (by omega)
        rw [hv9] at this
        exact this⟩
      have hend : ∀ W, Below w9.heap.size w9 W → Below w.heap.size w W := fun W b => HEND.out _ _ _ hx9 W b
      have k9 : w9.cell? ⟨CB, 3, none⟩ = some (.int .u64 (cc : Int)) := cell_row (HCB.out _ _ _ hx9 w9 (Below.refl _ _)) 3
      have HG9 := Lib.hid hg9; have HR9 := Lib.hid hrd; have HK9 := Lib.hid hpk9; have HE9 := Lib.hid hend
      clear h9 hx9 hpl9 hv9 hg9 hrd hpk9 hend
      have d9 : decide ((0 : Int) < (n9 : Int)) = true := decide_eq_true (by omega)
      have d9' : (0 : Int) < (n9 : Int) := by omega
      go_upto_region 20 with (go_at_call 9; refine HG9.out.mono ?_; rintro e' w10 ⟨rfl, rfl⟩)
      clear HG9
      go_wp2_with (first
        | (go_at_call 30; refine HR9.out.mono ?_; rintro e' w10 ⟨A10, c10, rfl, hb10, hs10⟩; have HS10 := Lib.hid hs10; clear hs10)
        | (go_at_call 29; refine HS10.out.mono ?_; rintro e' w11 ⟨rfl, hb11⟩; have hk11 := (HK9.out _ hb11).1; have HP11 := Lib.hid (HK9.out _ hb11).2; have HB11 := Lib.hid hb11; clear hb11)
        | (go_at_call 33; refine HP11.out.mono ?_; rintro e' w12 ⟨rfl, rfl⟩)
        | (go_at_call 18; refine (HLV.out _ (HE9.out _ HB11.out)).mono ?_; rintro e' w13 ⟨rfl, hb13⟩))
      go_ret
      exact ⟨rfl, (HE9.out _ HB11.out).trans (hb13.mono (HE9.out _ HB11.out).size)⟩
    · go_upto_region 11 with fail
      go_upto_region 12 with fail
      clear k1 k2
      have hrn := run_no (c := ⟨1024, cl, cn, cc⟩) HTW.out.1 HTW.out.2 HWD.out (by omega) (by simp) HST.out rfl hho HPR.out
      have HRN := Lib.hid hrn
      clear hrn hho
      go_upto_region 13 with (go_at_call 31; refine HRN.out.mono ?_; rintro e' w9 ⟨rfl, M9, P9, h9, ho9, wd9⟩)
      have hg9 : Calls Tryz.prog 9 #[Pw B8, Pw WB] w9 fun e w' => e = .returned (.tuple #[.int .u8 1, .int .u64 0]) ∧ w9 = w' := by
        have := h9.got (by rw [ho9]; omega) (Pw WB)
        rw [ho9] at this
        exact this
      have hpl9 := wd9.pl
      have hv9 := wd9.s
      obtain ⟨X9, hx9⟩ := h9.world
      have hrd := reads (c := c6) hx9 hpl9 hQk hQl h9.slice.rd (Nat.le_refl _)
      have hpk9 : ∀ W, Below w9.heap.size w9 W → W.cell? ⟨WB, 0, none⟩ = some (Pw X9.cB) ∧ Calls Tryz.prog 33 #[Pw X9.cB, .int .u32 1024] W fun e w' => e = .returned (.int .u64 (st : Nat)) ∧ W = w' := fun W b => ⟨(hx9.new b).c.1, by
        have := pg_peek (hx9.new b) (a := 1024) (by omega)
        rw [hv9] at this
        exact this⟩
      have hend : ∀ W, Below w9.heap.size w9 W → Below w.heap.size w W := fun W b => HEND.out _ _ _ hx9 W b
      have k9 : w9.cell? ⟨CB, 3, none⟩ = some (.int .u64 (cc : Int)) := cell_row (HCB.out _ _ _ hx9 w9 (Below.refl _ _)) 3
      have HG9 := Lib.hid hg9; have HR9 := Lib.hid hrd; have HK9 := Lib.hid hpk9; have HE9 := Lib.hid hend
      clear h9 hx9 hpl9 hv9 hg9 hrd hpk9 hend
      go_upto_region 14 with (go_at_call 9; refine HG9.out.mono ?_; rintro e' w10 ⟨rfl, rfl⟩)
      clear HG9
      go_wp2_with (first
        | (go_at_call 30; refine HR9.out.mono ?_; rintro e' w10 ⟨A10, c10, rfl, hb10, hs10⟩; have HS10 := Lib.hid hs10; clear hs10)
        | (go_at_call 29; refine HS10.out.mono ?_; rintro e' w11 ⟨rfl, hb11⟩; have hk11 := (HK9.out _ hb11).1; have HP11 := Lib.hid (HK9.out _ hb11).2; have HB11 := Lib.hid hb11; clear hb11)
        | (go_at_call 33; refine HP11.out.mono ?_; rintro e' w12 ⟨rfl, rfl⟩)
        | (go_at_call 18; refine (HLV.out _ (HE9.out _ HB11.out)).mono ?_; rintro e' w13 ⟨rfl, hb13⟩))
      go_ret
      exact ⟨rfl, (HE9.out _ HB11.out).trans (hb13.mono (HE9.out _ HB11.out).size)⟩
    · go_upto_region 11 with fail
      go_upto_region 15 with fail
      clear k1 k2
      have hsl := sleep_4 (c := ⟨1024, cl, cn, cc⟩) HTW.out.1 HTW.out.2 HWD.out (by omega) (by simp) HST.out rfl hho HPR.out
      have HSL := Lib.hid hsl
      clear hsl hho
      go_upto_region 17 with (first
        | (go_at_call 28; refine HSL.out.mono ?_; rintro e' w9 ⟨rfl, E9, F9, h9, wd9, hkw9⟩; obtain ⟨X9, hx9⟩ := h9.world; have hcb9 := hx9.c.1; have hpk9 := pg_peek hx9 (a := 1024) (by omega); rw [wd9.s] at hpk9; have HPK9 := Lib.hid hpk9; have HH9 := Lib.hid (And.intro h9 (And.intro wd9 hkw9)); clear h9 wd9 hkw9 hx9 hpk9)
        | (go_at_call 33; refine HPK9.out.mono ?_; rintro e' w10 ⟨rfl, rfl⟩))
      clear HPK9 HSL hcb9
      obtain ⟨Xt, rt, hxt, htk⟩ := HH9.out.1.op (f := 20) (args := fun X => #[Pw X.kB, .int .u64 ((3 : Nat) : Int)]) (v := fun _ e => e = .returned (.tuple #[])) (fun r X h => Pg.tick_ h 3 (by omega))
      have hkb := hxt.k1
      have HTK : Hid (Calls Tryz.prog 20 #[Pw Xt.kB, .int .u64 3] _ _) := Lib.hid htk
      clear hxt htk
      go_upto_region 18 with (go_at_call 20; refine HTK.out.mono ?_; rintro e' w11 ⟨rfl, h11⟩)
      clear hkb HTK
      have hrl := run_late (c := ⟨1024, cl, cn, cc⟩) HTW.out.1 HTW.out.2 HH9.out.2.1 (by omega) (by simp) HST.out rfl HH9.out.2.2 h11
      have HRL := Lib.hid hrl
      clear hrl h11
      go_upto_region 19 with (go_at_call 31; refine HRL.out.mono ?_; rintro e' w9 ⟨n9, hn0, hn9, rfl, P9, h9, ho9⟩)
      have hg9 : Calls Tryz.prog 9 #[Pw B8, Pw WB] w9 fun e w' => e = .returned (.tuple #[.int .u8 3, .int .u64 0]) ∧ w9 = w' := by
        have := h9.got (by rw [ho9]; omega) (Pw WB)
        rw [ho9] at this
        exact this
      have hpl9 := ltM_pl HH9.out.2.1 rfl HST.out HH9.out.2.2
      rw [leftA] at hpl9
      have hv9 := ltM_even HH9.out.2.1 rfl HST.out HH9.out.2.2
      obtain ⟨X9, hx9⟩ := h9.world
      have hrd := reads (c := c6) hx9 hpl9 hQk hQl h9.slice.rd (Nat.le_refl _)
      have hpk9 : ∀ W, Below w9.heap.size w9 W → W.cell? ⟨WB, 0, none⟩ = some (Pw X9.cB) ∧ Calls Tryz.prog 33 #[Pw X9.cB, .int .u32 1024] W fun e w' => e = .returned (.int .u64 (st &&& S2.cpl cc : Nat)) ∧ W = w' := fun W b => ⟨(hx9.new b).c.1, by
        have := pg_peek (hx9.new b) (a := 1024) (by omega)
        rw [hv9] at this
        exact this⟩
      have hend : ∀ W, Below w9.heap.size w9 W → Below w.heap.size w W := fun W b => HEND.out _ _ _ hx9 W b
      have k9 : w9.cell? ⟨CB, 3, none⟩ = some (.int .u64 (cc : Int)) := cell_row (HCB.out _ _ _ hx9 w9 (Below.refl _ _)) 3
      have HG9 := Lib.hid hg9; have HR9 := Lib.hid hrd; have HK9 := Lib.hid hpk9; have HE9 := Lib.hid hend
      clear h9 hx9 hpl9 hv9 hg9 hrd hpk9 hend
      have d9 : decide ((0 : Int) < (n9 : Int)) = true := decide_eq_true (by omega)
      have d9' : (0 : Int) < (n9 : Int) := by omega
      go_upto_region 20 with (go_at_call 9; refine HG9.out.mono ?_; rintro e' w10 ⟨rfl, rfl⟩)
      clear HG9
      go_wp2_with (first
        | (go_at_call 30; refine HR9.out.mono ?_; rintro e' w10 ⟨A10, c10, rfl, hb10, hs10⟩; have HS10 := Lib.hid hs10; clear hs10)
        | (go_at_call 29; refine HS10.out.mono ?_; rintro e' w11 ⟨rfl, hb11⟩; have hk11 := (HK9.out _ hb11).1; have HP11 := Lib.hid (HK9.out _ hb11).2; have HB11 := Lib.hid hb11; clear hb11)
        | (go_at_call 33; refine HP11.out.mono ?_; rintro e' w12 ⟨rfl, rfl⟩)
        | (go_at_call 18; refine (HLV.out _ (HE9.out _ HB11.out)).mono ?_; rintro e' w13 ⟨rfl, hb13⟩))
      go_ret
      exact ⟨rfl, (HE9.out _ HB11.out).trans (hb13.mono (HE9.out _ HB11.out).size)⟩
    · go_upto_region 11 with fail
      go_upto_region 15 with fail
      clear k1 k2
      have hsl := sleep_4 (c := ⟨1024, cl, cn, cc⟩) HTW.out.1 HTW.out.2 HWD.out (by omega) (by simp) HST.out rfl hho HPR.out
      have HSL := Lib.hid hsl
      clear hsl hho
      go_upto_region 17 with (first
        | (go_at_call 28; refine HSL.out.mono ?_; rintro e' w9 ⟨rfl, E9, F9, h9, wd9, hkw9⟩; obtain ⟨X9, hx9⟩ := h9.world; have hcb9 := hx9.c.1; have hpk9 := pg_peek hx9 (a := 1024) (by omega); rw [wd9.s] at hpk9; have HPK9 := Lib.hid hpk9; have HH9 := Lib.hid (And.intro h9 (And.intro wd9 hkw9)); clear h9 wd9 hkw9 hx9 hpk9)
        | (go_at_call 33; refine HPK9.out.mono ?_; rintro e' w10 ⟨rfl, rfl⟩))
      clear HPK9 HSL hcb9
      obtain ⟨Xt, rt, hxt, htk⟩ := HH9.out.1.op (f := 20) (args := fun X => #[Pw X.kB, .int .u64 ((3 : Nat) : Int)]) (v := fun _ e => e = .returned (.tuple #[])) (fun r X h => Pg.tick_ h 3 (by omega))
      have hkb := hxt.k1
      have HTK : Hid (Calls Tryz.prog 20 #[Pw Xt.kB, .int .u64 3] _ _) := Lib.hid htk
      clear hxt htk
      go_upto_region 18 with (go_at_call 20; refine HTK.out.mono ?_; rintro e' w11 ⟨rfl, h11⟩)
      clear hkb HTK
      have hrl := run_late (c := ⟨1024, cl, cn, cc⟩) HTW.out.1 HTW.out.2 HH9.out.2.1 (by omega) (by simp) HST.out rfl HH9.out.2.2 h11
      have HRL := Lib.hid hrl
      clear hrl h11
      go_upto_region 19 with (go_at_call 31; refine HRL.out.mono ?_; rintro e' w9 ⟨n9, hn0, hn9, rfl, P9, h9, ho9⟩)
      have hg9 : Calls Tryz.prog 9 #[Pw B8, Pw WB] w9 fun e w' => e = .returned (.tuple #[.int .u8 3, .int .u64 0]) ∧ w9 = w' := by
        have := h9.got (by rw [ho9]; omega) (Pw WB)
        rw [ho9] at this
        exact this
      have hpl9 := ltM_pl HH9.out.2.1 rfl HST.out HH9.out.2.2
      rw [leftA] at hpl9
      have hv9 := ltM_even HH9.out.2.1 rfl HST.out HH9.out.2.2
      obtain ⟨X9, hx9⟩ := h9.world
      have hrd := reads (c := c6) hx9 hpl9 hQk hQl h9.slice.rd (Nat.le_refl _)
      have hpk9 : ∀ W, Below w9.heap.size w9 W → W.cell? ⟨WB, 0, none⟩ = some (Pw X9.cB) ∧ Calls Tryz.prog 33 #[Pw X9.cB, .int .u32 1024] W fun e w' => e = .returned (.int .u64 (st &&& S2.cpl cc : Nat)) ∧ W = w' := fun W b => ⟨(hx9.new b).c.1, by
        have := pg_peek (hx9.new b) (a := 1024) (by omega)
        rw [hv9] at this
        exact this⟩
      have hend : ∀ W, Below w9.heap.size w9 W → Below w.heap.size w W := fun W b => HEND.out _ _ _ hx9 W b
      have k9 : w9.cell? ⟨CB, 3, none⟩ = some (.int .u64 (cc : Int)) := cell_row (HCB.out _ _ _ hx9 w9 (Below.refl _ _)) 3
      have HG9 := Lib.hid hg9; have HR9 := Lib.hid hrd; have HK9 := Lib.hid hpk9; have HE9 := Lib.hid hend
      clear h9 hx9 hpl9 hv9 hg9 hrd hpk9 hend
      have d9 : decide ((0 : Int) < (n9 : Int)) = true := decide_eq_true (by omega)
      have d9' : (0 : Int) < (n9 : Int) := by omega
      go_upto_region 20 with (go_at_call 9; refine HG9.out.mono ?_; rintro e' w10 ⟨rfl, rfl⟩)
      clear HG9
      go_wp2_with (first
        | (go_at_call 30; refine HR9.out.mono ?_; rintro e' w10 ⟨A10, c10, rfl, hb10, hs10⟩; have HS10 := Lib.hid hs10; clear hs10)
        | (go_at_call 29; refine HS10.out.mono ?_; rintro e' w11 ⟨rfl, hb11⟩; have hk11 := (HK9.out _ hb11).1; have HP11 := Lib.hid (HK9.out _ hb11).2; have HB11 := Lib.hid hb11; clear hb11)
        | (go_at_call 33; refine HP11.out.mono ?_; rintro e' w12 ⟨rfl, rfl⟩)
        | (go_at_call 18; refine (HLV.out _ (HE9.out _ HB11.out)).mono ?_; rintro e' w13 ⟨rfl, hb13⟩))
      go_ret
      exact ⟨rfl, (HE9.out _ HB11.out).trans (hb13.mono (HE9.out _ HB11.out).size)⟩

  · rw [hm] at em em1 em2
    have hn9 := fun (W : World) (b : Below w4.heap.size w4 W) => new_9 (H4.out.1.new b)
    have HN9 := Lib.hid hn9
    clear hn9
    go_upto_region 8 with (first
      | (go_at_call 8; refine (HN9.out _ (Below.refl _ _)).mono ?_; rintro e' w5 ⟨B5, rfl, h5⟩; have HS9 := Lib.hid (sleep_9 HTW.out.1 HTW.out.2 H4.out.2 (by omega) h5); clear h5)
      | (go_at_call 28; refine HS9.out.mono ?_; rintro e' w5b ⟨rfl, M5, X5, h5, wd5⟩))
    clear H4
    have H4 := Lib.hid (And.intro h5 wd5)
    clear h5 wd5
    have hQk : ∀ i, i < ([entD D9] : List S10.Ent).length → ([entD D9] : List S10.Ent)[i]!.k = ((1024 : Nat) : Int) := by
      intro i hi
      simp at hi
      try (subst hi; rfl)
    have hQl : ([entD D9] : List S10.Ent).length ≤ 100 := by simp
    have hqo := queue_of H4.out.1 H4.out.2.pl (by omega) hQk hQl
    have HQO : Hid (Calls Tryz.prog 30 #[Pw WB, .int .u32 1024] _ _) := Lib.hid hqo
    clear hqo
    go_upto_region 9 with (go_at_call 30; refine HQO.out.mono ?_; rintro e' w6 ⟨A6, c6, rfl, hrow6, hb6⟩; have HR6 := Lib.hid (And.intro hrow6 hb6); clear hrow6 hb6)
    clear HQO
    have hck := HCB.out _ _ _ H4.out.1 w6 HR6.out.2
    have k0 : w6.cell? ⟨CB, 0, none⟩ = some (.int .u32 1024) := cell_row hck 0
    have k1 : w6.cell? ⟨CB, 1, none⟩ = some (.int .u64 (cl : Int)) := cell_row hck 1
    have k2 : w6.cell? ⟨CB, 2, none⟩ = some (.int .u64 (cn : Int)) := cell_row hck 2
    have k3 : w6.cell? ⟨CB, 3, none⟩ = some (.int .u64 (cc : Int)) := cell_row hck 3
    have hn4 := new_4 (wq4 H4.out.1 HR6.out.2 HR6.out.1) (by show 2 < 4; omega) (c := ⟨1024, cl, cn, cc⟩) ⟨by show 1024 < 4294967296; omega, HCC.out.1, HCC.out.2.1, HCC.out.2.2⟩
    have HN4 : Hid (Calls Tryz.prog 8 #[.int .i64 4, .int .u32 1024, .int .u64 0, .agg #[.bool true, .int .u64 3], .iface 108 (.agg #[.int .u32 1024, .int .u64 (cl : Int), .int .u64 (cn : Int), .int .u64 (cc : Int)])] _ _) := Lib.hid hn4
    clear hn4 hck
    go_upto_region 10 with (go_at_call 8; refine HN4.out.mono ?_; rintro e' w8 ⟨B8, rfl, h8⟩)
    clear k0 k1 k2 k3
    obtain ⟨X8, hx8⟩ := h8.world
    have hck8 := HCB.out _ _ _ hx8 w8 (Below.refl _ _)
    have k1 : w8.cell? ⟨CB, 1, none⟩ = some (.int .u64 (cl : Int)) := cell_row hck8 1
    have k2 : w8.cell? ⟨CB, 2, none⟩ = some (.int .u64 (cn : Int)) := cell_row hck8 2
    clear hx8 hck8
    have HPR := Lib.hid h8
    have HWD := Lib.hid H4.out.2
    clear h8 HN4 H4
    have a1 := bits_and_u64_nat st cl (by have := HST.out; omega) HCC.out.1
    have a2 := bits_and_u64_nat st cn (by have := HST.out; omega) HCC.out.2.1
    have a3 := S2.andNot_nat st cc (by have := HST.out; omega) HCC.out.2.2
    have hho : Ck.holds ⟨1024, cl, cn, cc⟩ st = (decide (st &&& cl = cl) && (decide (cn = 0) || !decide (st &&& cn = 0))) := rfl
    have p1 := decN (st &&& cl) cl
    have p2 := decN0 cn
    have p3 := decN0 (st &&& cn)
    have q1 := beqI ((st &&& cl : Nat) : Int) (cl : Int)
    have q2 := beqI (cn : Int) 0
    have q3 : ((((st &&& cn : Nat) : Int)) != 0) = !decide (((st &&& cn : Nat) : Int) = 0) := rfl
    rw [p1] at q1
    rw [p2] at q2
    rw [p3] at q3
    generalize decide (st &&& cl = cl) = b1 at *
    generalize decide (cn = 0) = b2 at *
    generalize decide (st &&& cn = 0) = b3 at *
    generalize ((st &&& cl : Nat) : Int) = m1 at *
    generalize ((st &&& cn : Nat) : Int) = m2 at *
    cases b1 <;> cases b2 <;> cases b3
    · go_upto_region 11 with fail
      go_upto_region 12 with fail
      clear k1 k2
      have hrn := run_no (c := ⟨1024, cl, cn, cc⟩) HTW.out.1 HTW.out.2 HWD.out (by omega) (by simp) HST.out rfl hho HPR.out
      have HRN := Lib.hid hrn
      clear hrn hho
      go_upto_region 13 with (go_at_call 31; refine HRN.out.mono ?_; rintro e' w9 ⟨rfl, M9, P9, h9, ho9, wd9⟩)
      have hg9 : Calls Tryz.prog 9 #[Pw B8, Pw WB] w9 fun e w' => e = .returned (.tuple #[.int .u8 1, .int .u64 0]) ∧ w9 = w' := by
        have := h9.got (by rw [ho9]; omega) (Pw WB)
        rw [ho9] at this
        exact this
      have hpl9 := wd9.pl
      have hv9 := wd9.s
      obtain ⟨X9, hx9⟩ := h9.world
      have hrd := reads (c := c6) hx9 hpl9 hQk hQl h9.slice.rd (Nat.le_refl _)
      have hpk9 : ∀ W, Below w9.heap.size w9 W → W.cell? ⟨WB, 0, none⟩ = some (Pw X9.cB) ∧ Calls Tryz.prog 33 #[Pw X9.cB, .int .u32 1024] W fun e w' => e = .returned (.int .u64 (st : Nat)) ∧ W = w' := fun W b => ⟨(hx9.new b).c.1, by
        have := pg_peek (hx9.new b) (a := 1024) (by omega)
        rw [hv9] at this
        exact this⟩
      have hend : ∀ W, Below w9.heap.size w9 W → Below w.heap.size w W := fun W b => HEND.out _ _ _ hx9 W b
      have k9 : w9.cell? ⟨CB, 3, none⟩ = some (.int .u64 (cc : Int)) := cell_row (HCB.out _ _ _ hx9 w9 (Below.refl _ _)) 3
      have HG9 := Lib.hid hg9; have HR9 := Lib.hid hrd; have HK9 := Lib.hid hpk9; have HE9 := Lib.hid hend
      clear h9 hx9 hpl9 hv9 hg9 hrd hpk9 hend
      go_upto_region 14 with (go_at_call 9; refine HG9.out.mono ?_; rintro e' w10 ⟨rfl, rfl⟩)
      clear HG9
      go_wp2_with (first
        | (go_at_call 30; refine HR9.out.mono ?_; rintro e' w10 ⟨A10, c10, rfl, hb10, hs10⟩; have HS10 := Lib.hid hs10; clear hs10)
        | (go_at_call 29; refine HS10.out.mono ?_; rintro e' w11 ⟨rfl, hb11⟩; have hk11 := (HK9.out _ hb11).1; have HP11 := Lib.hid (HK9.out _ hb11).2; have HB11 := Lib.hid hb11; clear hb11)
        | (go_at_call 33; refine HP11.out.mono ?_; rintro e' w12 ⟨rfl, rfl⟩)
        | (go_at_call 18; refine (HLV.out _ (HE9.out _ HB11.out)).mono ?_; rintro e' w13 ⟨rfl, hb13⟩))
      go_ret
      exact ⟨rfl, (HE9.out _ HB11.out).trans (hb13.mono (HE9.out _ HB11.out).size)⟩
    · go_upto_region 11 with fail
      go_upto_region 12 with fail
      clear k1 k2
      have hrn := run_no (c := ⟨1024, cl, cn, cc⟩) HTW.out.1 HTW.out.2 HWD.out (by omega) (by simp) HST.out rfl hho HPR.out
      have HRN := Lib.hid hrn
      clear hrn hho
      go_upto_region 13 with (go_at_call 31; refine HRN.out.mono ?_; rintro e' w9 ⟨rfl, M9, P9, h9, ho9, wd9⟩)
      have hg9 : Calls Tryz.prog 9 #[Pw B8, Pw WB] w9 fun e w' => e = .returned (.tuple #[.int .u8 1, .int .u64 0]) ∧ w9 = w' := by
        have := h9.got (by rw [ho9]; omega) (Pw WB)
        rw [ho9] at this
        exact this
      have hpl9 := wd9.pl
      have hv9 := wd9.s
      obtain ⟨X9, hx9⟩ := h9.world
      have hrd := reads (c := c6) hx9 hpl9 hQk hQl h9.slice.rd (Nat.le_refl _)
      have hpk9 : ∀ W, Below w9.heap.size w9 W → W.cell? ⟨WB, 0, none⟩ = some (Pw X9.cB) ∧ Calls Tryz.prog 33 #[Pw X9.cB, .int .u32 1024] W fun e w' => e = .returned (.int .u64 (st : Nat)) ∧ W = w' := fun W b => ⟨(hx9.new b).c.1, by
        have := pg_peek (hx9.new b) (a := 1024) (by omega)
        rw [hv9] at this
        exact this⟩
      have hend : ∀ W, Below w9.heap.size w9 W → Below w.heap.size w W := fun W b => HEND.out _ _ _ hx9 W b
      have k9 : w9.cell? ⟨CB, 3, none⟩ = some (.int .u64 (cc : Int)) := cell_row (HCB.out _ _ _ hx9 w9 (Below.refl _ _)) 3
      have HG9 := Lib.hid hg9; have HR9 := Lib.hid hrd; have HK9 := Lib.hid hpk9; have HE9 := Lib.hid hend
      clear h9 hx9 hpl9 hv9 hg9 hrd hpk9 hend
      go_upto_region 14 with (go_at_call 9; refine HG9.out.mono ?_; rintro e' w10 ⟨rfl, rfl⟩)
      clear HG9
      go_wp2_with (first
        | (go_at_call 30; refine HR9.out.mono ?_; rintro e' w10 ⟨A10, c10, rfl, hb10, hs10⟩; have HS10 := Lib.hid hs10; clear hs10)
        | (go_at_call 29; refine HS10.out.mono ?_; rintro e' w11 ⟨rfl, hb11⟩; have hk11 := (HK9.out _ hb11).1; have HP11 := Lib.hid (HK9.out _ hb11).2; have HB11 := Lib.hid hb11; clear hb11)
        | (go_at_call 33; refine HP11.out.mono ?_; rintro e' w12 ⟨rfl, rfl⟩)
        | (go_at_call 18; refine (HLV.out _ (HE9.out _ HB11.out)).mono ?_; rintro e' w13 ⟨rfl, hb13⟩))
      go_ret
      exact ⟨rfl, (HE9.out _ HB11.out).trans (hb13.mono (HE9.out _ HB11.out).size)⟩
    · go_upto_region 11 with fail
      go_upto_region 12 with fail
      clear k1 k2
      have hrn := run_no (c := ⟨1024, cl, cn, cc⟩) HTW.out.1 HTW.out.2 HWD.out (by omega) (by simp) HST.out rfl hho HPR.out
      have HRN := Lib.hid hrn
      clear hrn hho
      go_upto_region 13 with (go_at_call 31; refine HRN.out.mono ?_; rintro e' w9 ⟨rfl, M9, P9, h9, ho9, wd9⟩)
      have hg9 : Calls Tryz.prog 9 #[Pw B8, Pw WB] w9 fun e w' => e = .returned (.tuple #[.int .u8 1, .int .u64 0]) ∧ w9 = w' := by
        have := h9.got (by rw [ho9]; omega) (Pw WB)
        rw [ho9] at this
        exact this
      have hpl9 := wd9.pl
      have hv9 := wd9.s
      obtain ⟨X9, hx9⟩ := h9.world
      have hrd := reads (c := c6) hx9 hpl9 hQk hQl h9.slice.rd (Nat.le_refl _)
      have hpk9 : ∀ W, Below w9.heap.size w9 W → W.cell? ⟨WB, 0, none⟩ = some (Pw X9.cB) ∧ Calls Tryz.prog 33 #[Pw X9.cB, .int .u32 1024] W fun e w' => e = .returned (.int .u64 (st : Nat)) ∧ W = w' := fun W b => ⟨(hx9.new b).c.1, by
        have := pg_peek (hx9.new b) (a := 1024) (by omega)
        rw [hv9] at this
        exact this⟩
      have hend : ∀ W, Below w9.heap.size w9 W → Below w.heap.size w W := fun W b => HEND.out _ _ _ hx9 W b
      have k9 : w9.cell? ⟨CB, 3, none⟩ = some (.int .u64 (cc : Int)) := cell_row (HCB.out _ _ _ hx9 w9 (Below.refl _ _)) 3
      have HG9 := Lib.hid hg9; have HR9 := Lib.hid hrd; have HK9 := Lib.hid hpk9; have HE9 := Lib.hid hend
      clear h9 hx9 hpl9 hv9 hg9 hrd hpk9 hend
      go_upto_region 14 with (go_at_call 9; refine HG9.out.mono ?_; rintro e' w10 ⟨rfl, rfl⟩)
      clear HG9
      go_wp2_with (first
        | (go_at_call 30; refine HR9.out.mono ?_; rintro e' w10 ⟨A10, c10, rfl, hb10, hs10⟩; have HS10 := Lib.hid hs10; clear hs10)
        | (go_at_call 29; refine HS10.out.mono ?_; rintro e' w11 ⟨rfl, hb11⟩; have hk11 := (HK9.out _ hb11).1; have HP11 := Lib.hid (HK9.out _ hb11).2; have HB11 := Lib.hid hb11; clear hb11)
        | (go_at_call 33; refine HP11.out.mono ?_; rintro e' w12 ⟨rfl, rfl⟩)
        | (go_at_call 18; refine (HLV.out _ (HE9.out _ HB11.out)).mono ?_; rintro e' w13 ⟨rfl, hb13⟩))
      go_ret
      exact ⟨rfl, (HE9.out _ HB11.out).trans (hb13.mono (HE9.out _ HB11.out).size)⟩
    · go_upto_region 11 with fail
      go_upto_region 12 with fail
      clear k1 k2
      have hrn := run_no (c := ⟨1024, cl, cn, cc⟩) HTW.out.1 HTW.out.2 HWD.out (by omega) (by simp) HST.out rfl hho HPR.out
      have HRN := Lib.hid hrn
      clear hrn hho
      go_upto_region 13 with (go_at_call 31; refine HRN.out.mono ?_; rintro e' w9 ⟨rfl, M9, P9, h9, ho9, wd9⟩)
      have hg9 : Calls Tryz.prog 9 #[Pw B8, Pw WB] w9 fun e w' => e = .returned (.tuple #[.int .u8 1, .int .u64 0]) ∧ w9 = w' := by
        have := h9.got (by rw [ho9]; omega) (Pw WB)
        rw [ho9] at this
        exact this
      have hpl9 := wd9.pl
      have hv9 := wd9.s
      obtain ⟨X9, hx9⟩ := h9.world
      have hrd := reads (c := c6) hx9 hpl9 hQk hQl h9.slice.rd (Nat.le_refl _)
      have hpk9 : ∀ W, Below w9.heap.size w9 W → W.cell? ⟨WB, 0, none⟩ = some (Pw X9.cB) ∧ Calls Tryz.prog 33 #[Pw X9.cB, .int .u32 1024] W fun e w' => e = .returned (.int .u64 (st : Nat)) ∧ W = w' := fun W b => ⟨(hx9.new b).c.1, by
        have := pg_peek (hx9.new b) (a := 1024) (by omega)
        rw [hv9] at this
        exact this⟩
      have hend : ∀ W, Below w9.heap.size w9 W → Below w.heap.size w W := fun W b => HEND.out _ _ _ hx9 W b
      have k9 : w9.cell? ⟨CB, 3, none⟩ = some (.int .u64 (cc : Int)) := cell_row (HCB.out _ _ _ hx9 w9 (Below.refl _ _)) 3
      have HG9 := Lib.hid hg9; have HR9 := Lib.hid hrd; have HK9 := Lib.hid hpk9; have HE9 := Lib.hid hend
      clear h9 hx9 hpl9 hv9 hg9 hrd hpk9 hend
      go_upto_region 14 with (go_at_call 9; refine HG9.out.mono ?_; rintro e' w10 ⟨rfl, rfl⟩)
      clear HG9
      go_wp2_with (first
        | (go_at_call 30; refine HR9.out.mono ?_; rintro e' w10 ⟨A10, c10, rfl, hb10, hs10⟩; have HS10 := Lib.hid hs10; clear hs10)
        | (go_at_call 29; refine HS10.out.mono ?_; rintro e' w11 ⟨rfl, hb11⟩; have hk11 := (HK9.out _ hb11).1; have HP11 := Lib.hid (HK9.out _ hb11).2; have HB11 := Lib.hid hb11; clear hb11)
        | (go_at_call 33; refine HP11.out.mono ?_; rintro e' w12 ⟨rfl, rfl⟩)
        | (go_at_call 18; refine (HLV.out _ (HE9.out _ HB11.out)).mono ?_; rintro e' w13 ⟨rfl, hb13⟩))
      go_ret
      exact ⟨rfl, (HE9.out _ HB11.out).trans (hb13.mono (HE9.out _ HB11.out).size)⟩
    · go_upto_region 11 with fail
      go_upto_region 15 with fail
      clear k1 k2
      have hsl := sleep_4 (c := ⟨1024, cl, cn, cc⟩) HTW.out.1 HTW.out.2 HWD.out (by omega) (by simp) HST.out rfl hho HPR.out
      have HSL := Lib.hid hsl
      clear hsl hho
      go_upto_region 17 with (first
        | (go_at_call 28; refine HSL.out.mono ?_; rintro e' w9 ⟨rfl, E9, F9, h9, wd9, hkw9⟩; obtain ⟨X9, hx9⟩ := h9.world; have hcb9 := hx9.c.1; have hpk9 := pg_peek hx9 (a := 1024) (by omega); rw [wd9.s] at hpk9; have HPK9 := Lib.hid hpk9; have HH9 := Lib.hid (And.intro h9 (And.intro wd9 hkw9)); clear h9 wd9 hkw9 hx9 hpk9)
        | (go_at_call 33; refine HPK9.out.mono ?_; rintro e' w10 ⟨rfl, rfl⟩))
      clear HPK9 HSL hcb9
      obtain ⟨Xt, rt, hxt, htk⟩ := HH9.out.1.op (f := 20) (args := fun X => #[Pw X.kB, .int .u64 ((3 : Nat) : Int)]) (v := fun _ e => e = .returned (.tuple #[])) (fun r X h => Pg.tick_ h 3 (by omega))
      have hkb := hxt.k1
      have HTK : Hid (Calls Tryz.prog 20 #[Pw Xt.kB, .int .u64 3] _ _) := Lib.hid htk
      clear hxt htk
      go_upto_region 18 with (go_at_call 20; refine HTK.out.mono ?_; rintro e' w11 ⟨rfl, h11⟩)
      clear hkb HTK
      have hrl := run_late (c := ⟨1024, cl, cn, cc⟩) HTW.out.1 HTW.out.2 HH9.out.2.1 (by omega) (by simp) HST.out rfl HH9.out.2.2 h11
      have HRL := Lib.hid hrl
      clear hrl h11
      go_upto_region 19 with (go_at_call 31; refine HRL.out.mono ?_; rintro e' w9 ⟨n9, hn0, hn9, rfl, P9, h9, ho9⟩)
      have hg9 : Calls Tryz.prog 9 #[Pw B8, Pw WB] w9 fun e w' => e = .returned (.tuple #[.int .u8 3, .int .u64 0]) ∧ w9 = w' := by
        have := h9.got (by rw [ho9]; omega) (Pw WB)
        rw [ho9] at this
        exact this
      have hpl9 := ltM_pl HH9.out.2.1 rfl HST.out HH9.out.2.2
      rw [leftB] at hpl9
      have hv9 := ltM_odd HH9.out.2.1 rfl HST.out HH9.out.2.2
      obtain ⟨X9, hx9⟩ := h9.world
      have hrd := reads (c := c6) hx9 hpl9 hQk hQl h9.slice.rd (Nat.le_refl _)
      have hpk9 : ∀ W, Below w9.heap.size w9 W → W.cell? ⟨WB, 0, none⟩ = some (Pw X9.cB) ∧ Calls Tryz.prog 33 #[Pw X9.cB, .int .u32 1024] W fun e w' => e = .returned (.int .u64 (st : Nat)) ∧ W = w' := fun W b => ⟨(hx9.new b).c.1, by
        have := pg_peek (hx9.new b) (a := 1024) (by omega)
        rw [hv9] at this
        exact this⟩
      have hend : ∀ W, Below w9.heap.size w9 W → Below w.heap.size w W := fun W b => HEND.out _ _ _ hx9 W b
      have k9 : w9.cell? ⟨CB, 3, none⟩ = some (.int .u64 (cc : Int)) := cell_row (HCB.out _ _ _ hx9 w9 (Below.refl _ _)) 3
      have HG9 := Lib.hid hg9; have HR9 := Lib.hid hrd; have HK9 := Lib.hid hpk9; have HE9 := Lib.hid hend
      clear h9 hx9 hpl9 hv9 hg9 hrd hpk9 hend
      have d9 : decide ((0 : Int) < (n9 : Int)) = true := decide_eq_true (by omega)
      have d9' : (0 : Int) < (n9 : Int) := by omega
      go_upto_region 20 with (go_at_call 9; refine HG9.out.mono ?_; rintro e' w10 ⟨rfl, rfl⟩)
      clear HG9
      go_wp2_with (first
        | (go_at_call 30; refine HR9.out.mono ?_; rintro e' w10 ⟨A10, c10, rfl, hb10, hs10⟩; have HS10 := Lib.hid hs10; clear hs10)
        | (go_at_call 29; refine HS10.out.mono ?_; rintro e' w11 ⟨rfl, hb11⟩; have hk11 := (HK9.out _ hb11).1; have HP11 := Lib.hid (HK9.out _ hb11).2; have HB11 := Lib.hid hb11; clear hb11)
        | (go_at_call 33; refine HP11.out.mono ?_; rintro e' w12 ⟨rfl, rfl⟩)
        | (go_at_call 18; refine (HLV.out _ (HE9.out _ HB11.out)).mono ?_; rintro e' w13 ⟨rfl, hb13⟩))
      go_ret
      exact ⟨rfl, (HE9.out _ HB11.out).trans (hb13.mono (HE9.out _ HB11.out).size)⟩
    · go_upto_region 11 with fail
      go_upto_region 12 with fail
      clear k1 k2
      have hrn := run_no (c := ⟨1024, cl, cn, cc⟩) HTW.out.1 HTW.out.2 HWD.out (by omega) (by simp) HST.out rfl hho HPR.out
      have HRN := Lib.hid hrn
      clear hrn hho
      go_upto_region 13 with (go_at_call 31; refine HRN.out.mono ?_; rintro e' w9 ⟨rfl, M9, P9, h9, ho9, wd9⟩)
      have hg9 : Calls Tryz.prog 9 #[Pw B8, Pw WB] w9 fun e w' => e = .returned (.tuple #[.int .u8 1, .int .u64 0]) ∧ w9 = w' := by
        have := h9.got (by rw [ho9]; omega) (Pw WB)
        rw [ho9] at this
        exact this
      have hpl9 := wd9.pl
      have hv9 := wd9.s
      obtain ⟨X9, hx9⟩ := h9.world
      have hrd := reads (c := c6) hx9 hpl9 hQk hQl h9.slice.rd (Nat.le_refl _)
      have hpk9 : ∀ W, Below w9.heap.size w9 W → W.cell? ⟨WB, 0, none⟩ = some (Pw X9.cB) ∧ Calls Tryz.prog 33 #[Pw X9.cB, .int .u32 1024] W fun e w' => e = .returned (.int .u64 (st : Nat)) ∧ W = w' := fun W b => ⟨(hx9.new b).c.1, by
        have := pg_peek (hx9.new b) (a := 1024) (by omega)
        rw [hv9] at this
        exact this⟩
      have hend : ∀ W, Below w9.heap.size w9 W → Below w.heap.size w W := fun W b => HEND.out _ _ _ hx9 W b
      have k9 : w9.cell? ⟨CB, 3, none⟩ = some (.int .u64 (cc : Int)) := cell_row (HCB.out _ _ _ hx9 w9 (Below.refl _ _)) 3
      have HG9 := Lib.hid hg9; have HR9 := Lib.hid hrd; have HK9 := Lib.hid hpk9; have HE9 := Lib.hid hend
      clear h9 hx9 hpl9 hv9 hg9 hrd hpk9 hend
      go_upto_region 14 with (go_at_call 9; refine HG9.out.mono ?_; rintro e' w10 ⟨rfl, rfl⟩)
      clear HG9
      go_wp2_with (first
        | (go_at_call 30; refine HR9.out.mono ?_; rintro e' w10 ⟨A10, c10, rfl, hb10, hs10⟩; have HS10 := Lib.hid hs10; clear hs10)
        | (go_at_call 29; refine HS10.out.mono ?_; rintro e' w11 ⟨rfl, hb11⟩; have hk11 := (HK9.out _ hb11).1; have HP11 := Lib.hid (HK9.out _ hb11).2; have HB11 := Lib.hid hb11; clear hb11)
        | (go_at_call 33; refine HP11.out.mono ?_; rintro e' w12 ⟨rfl, rfl⟩)
        | (go_at_call 18; refine (HLV.out _ (HE9.out _ HB11.out)).mono ?_; rintro e' w13 ⟨rfl, hb13⟩))
      go_ret
      exact ⟨rfl, (HE9.out _ HB11.out).trans (hb13.mono (HE9.out _ HB11.out).size)⟩
    · go_upto_region 11 with fail
      go_upto_region 15 with fail
      clear k1 k2
      have hsl := sleep_4 (c := ⟨1024, cl, cn, cc⟩) HTW.out.1 HTW.out.2 HWD.out (by omega) (by simp) HST.out rfl hho HPR.out
      have HSL := Lib.hid hsl
      clear hsl hho
      go_upto_region 17 with (first
        | (go_at_call 28; refine HSL.out.mono ?_; rintro e' w9 ⟨rfl, E9, F9, h9, wd9, hkw9⟩; obtain ⟨X9, hx9⟩ := h9.world; have hcb9 := hx9.c.1; have hpk9 := pg_peek hx9 (a := 1024) (by omega); rw [wd9.s] at hpk9; have HPK9 := Lib.hid hpk9; have HH9 := Lib.hid (And.intro h9 (And.intro wd9 hkw9)); clear h9 wd9 hkw9 hx9 hpk9)
        | (go_at_call 33; refine HPK9.out.mono ?_; rintro e' w10 ⟨rfl, rfl⟩))
      clear HPK9 HSL hcb9
      obtain ⟨Xt, rt, hxt, htk⟩ := HH9.out.1.op (f := 20) (args := fun X => #[Pw X.kB, .int .u64 ((3 : Nat) : Int)]) (v := fun _ e => e = .returned (.tuple #[])) (fun r X h => Pg.tick_ h 3 (by omega))
      have hkb := hxt.k1
      have HTK : Hid (Calls Tryz.prog 20 #[Pw Xt.kB, .int .u64 3] _ _) := Lib.hid htk
      clear hxt htk
      go_upto_region 18 with (go_at_call 20; refine HTK.out.mono ?_; rintro e' w11 ⟨rfl, h11⟩)
      clear hkb HTK
      have hrl := run_late (c := ⟨1024, cl, cn, cc⟩) HTW.out.1 HTW.out.2 HH9.out.2.1 (by omega) (by simp) HST.out rfl HH9.out.2.2 h11
      have HRL := Lib.hid hrl
      clear hrl h11
      go_upto_region 19 with (go_at_call 31; refine HRL.out.mono ?_; rintro e' w9 ⟨n9, hn0, hn9, rfl, P9, h9, ho9⟩)
      have hg9 : Calls Tryz.prog 9 #[Pw B8, Pw WB] w9 fun e w' => e = .returned (.tuple #[.int .u8 3, .int .u64 0]) ∧ w9 = w' := by
        have := h9.got (by rw [ho9]; omega) (Pw WB)
        rw [ho9] at this
        exact this
      have hpl9 := ltM_pl HH9.out.2.1 rfl HST.out HH9.out.2.2
      rw [leftB] at hpl9
      have hv9 := ltM_odd HH9.out.2.1 rfl HST.out HH9.out.2.2
      obtain ⟨X9, hx9⟩ := h9.world
      have hrd := reads (c := c6) hx9 hpl9 hQk hQl h9.slice.rd (Nat.le_refl _)
      have hpk9 : ∀ W, Below w9.heap.size w9 W → W.cell? ⟨WB, 0, none⟩ = some (Pw X9.cB) ∧ Calls Tryz.prog 33 #[Pw X9.cB, .int .u32 1024] W fun e w' => e = .returned (.int .u64 (st : Nat)) ∧ W = w' := fun W b => ⟨(hx9.new b).c.1, by
        have := pg_peek (hx9.new b) (a := 1024) (by omega)
        rw [hv9] at this
        exact this⟩
      have hend : ∀ W, Below w9.heap.size w9 W → Below w.heap.size w W := fun W b => HEND.out _ _ _ hx9 W b
      have k9 : w9.cell? ⟨CB, 3, none⟩ = some (.int .u64 (cc : Int)) := cell_row (HCB.out _ _ _ hx9 w9 (Below.refl _ _)) 3
      have HG9 := Lib.hid hg9; have HR9 := Lib.hid hrd; have HK9 := Lib.hid hpk9; have HE9 := Lib.hid hend
      clear h9 hx9 hpl9 hv9 hg9 hrd hpk9 hend
      have d9 : decide ((0 : Int) < (n9 : Int)) = true := decide_eq_true (by omega)
      have d9' : (0 : Int) < (n9 : Int) := by omega
      go_upto_region 20 with (go_at_call 9; refine HG9.out.mono ?_; rintro e' w10 ⟨rfl, rfl⟩)
      clear HG9
      go_wp2_with (first
        | (go_at_call 30; refine HR9.out.mono ?_; rintro e' w10 ⟨A10, c10, rfl, hb10, hs10⟩; have HS10 := Lib.hid hs10; clear hs10)
        | (go_at_call 29; refine HS10.out.mono ?_; rintro e' w11 ⟨rfl, hb11⟩; have hk11 := (HK9.out _ hb11).1; have HP11 := Lib.hid (HK9.out _ hb11).2; have HB11 := Lib.hid hb11; clear hb11)
        | (go_at_call 33; refine HP11.out.mono ?_; rintro e' w12 ⟨rfl, rfl⟩)
        | (go_at_call 18; refine (HLV.out _ (HE9.out _ HB11.out)).mono ?_; rintro e' w13 ⟨rfl, hb13⟩))
      go_ret
      exact ⟨rfl, (HE9.out _ HB11.out).trans (hb13.mono (HE9.out _ HB11.out).size)⟩
    · go_upto_region 11 with fail
      go_upto_region 15 with fail
      clear k1 k2
      have hsl := sleep_4 (c := ⟨1024, cl, cn, cc⟩) HTW.out.1 HTW.out.2 HWD.out (by omega) (by simp) HST.out rfl hho HPR.out
      have HSL := Lib.hid hsl
      clear hsl hho
      go_upto_region 17 with (first
        | (go_at_call 28; refine HSL.out.mono ?_; rintro e' w9 ⟨rfl, E9, F9, h9, wd9, hkw9⟩; obtain ⟨X9, hx9⟩ := h9.world; have hcb9 := hx9.c.1; have hpk9 := pg_peek hx9 (a := 1024) (by omega); rw [wd9.s] at hpk9; have HPK9 := Lib.hid hpk9; have HH9 := Lib.hid (And.intro h9 (And.intro wd9 hkw9)); clear h9 wd9 hkw9 hx9 hpk9)
        | (go_at_call 33; refine HPK9.out.mono ?_; rintro e' w10 ⟨rfl, rfl⟩))
      clear HPK9 HSL hcb9
      obtain ⟨Xt, rt, hxt, htk⟩ := HH9.out.1.op (f := 20) (args := fun X => #[Pw X.kB, .int .u64 ((3 : Nat) : Int)]) (v := fun _ e => e = .returned (.tuple #[])) (fun r X h => Pg.tick_ h 3 (by omega))
      have hkb := hxt.k1
      have HTK : Hid (Calls Tryz.prog 20 #[Pw Xt.kB, .int .u64 3] _ _) := Lib.hid htk
      clear hxt htk
      go_upto_region 18 with (go_at_call 20; refine HTK.out.mono ?_; rintro e' w11 ⟨rfl, h11⟩)
      clear hkb HTK
      have hrl := run_late (c := ⟨1024, cl, cn, cc⟩) HTW.out.1 HTW.out.2 HH9.out.2.1 (by omega) (by simp) HST.out rfl HH9.out.2.2 h11
      have HRL := Lib.hid hrl
      clear hrl h11
      go_upto_region 19 with (go_at_call 31; refine HRL.out.mono ?_; rintro e' w9 ⟨n9, hn0, hn9, rfl, P9, h9, ho9⟩)
      have hg9 : Calls Tryz.prog 9 #[Pw B8, Pw WB] w9 fun e w' => e = .returned (.tuple #[.int .u8 3, .int .u64 0]) ∧ w9 = w' := by
        have := h9.got (by rw [ho9]; omega) (Pw WB)
        rw [ho9] at this
        exact this
      have hpl9 := ltM_pl HH9.out.2.1 rfl HST.out HH9.out.2.2
      rw [leftB] at hpl9
      have hv9 := ltM_odd HH9.out.2.1 rfl HST.out HH9.out.2.2
      obtain ⟨X9, hx9⟩ := h9.world
      have hrd := reads (c := c6) hx9 hpl9 hQk hQl h9.slice.rd (Nat.le_refl _)
      have hpk9 : ∀ W, Below w9.heap.size w9 W → W.cell? ⟨WB, 0, none⟩ = some (Pw X9.cB) ∧ Calls Tryz.prog 33 #[Pw X9.cB, .int .u32 1024] W fun e w' => e = .returned (.int .u64 (st : Nat)) ∧ W = w' := fun W b => ⟨(hx9.new b).c.1, by
        have := pg_peek (hx9.new b) (a := 1024) (by omega)
        rw [hv9] at this
        exact this⟩
      have hend : ∀ W, Below w9.heap.size w9 W → Below w.heap.size w W := fun W b => HEND.out _ _ _ hx9 W b
      have k9 : w9.cell? ⟨CB, 3, none⟩ = some (.int .u64 (cc : Int)) := cell_row (HCB.out _ _ _ hx9 w9 (Below.refl _ _)) 3
      have HG9 := Lib.hid hg9; have HR9 := Lib.hid hrd; have HK9 := Lib.hid hpk9; have HE9 := Lib.hid hend
      clear h9 hx9 hpl9 hv9 hg9 hrd hpk9 hend
      have d9 : decide ((0 : Int) < (n9 : Int)) = true := decide_eq_true (by omega)
      have d9' : (0 : Int) < (n9 : Int) := by omega
      go_upto_region 20 with (go_at_call 9; refine HG9.out.mono ?_; rintro e' w10 ⟨rfl, rfl⟩)
      clear HG9
      go_wp2_with (first
        | (go_at_call 30; refine HR9.out.mono ?_; rintro e' w10 ⟨A10, c10, rfl, hb10, hs10⟩; have HS10 := Lib.hid hs10; clear hs10)
        | (go_at_call 29; refine HS10.out.mono ?_; rintro e' w11 ⟨rfl, hb11⟩; have hk11 := (HK9.out _ hb11).1; have HP11 := Lib.hid (HK9.out _ hb11).2; have HB11 := Lib.hid hb11; clear hb11)
        | (go_at_call 33; refine HP11.out.mono ?_; rintro e' w12 ⟨rfl, rfl⟩)
        | (go_at_call 18; refine (HLV.out _ (HE9.out _ HB11.out)).mono ?_; rintro e' w13 ⟨rfl, hb13⟩))
      go_ret
      exact ⟨rfl, (HE9.out _ HB11.out).trans (hb13.mono (HE9.out _ HB11.out).size)⟩

end Go.Proofs.YtpmafdggbeppcaaGreatDoor.S18
