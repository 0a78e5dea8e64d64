/- Texts of this seat, one behind the other. -/
import Derived.Test.YtieiiabbeglmfaaGreatDoorMLawFair2049
import Derived.Test.YtieiiabbeglmfaaGreatDoorMLawFair2050
set_option linter.unusedVariables false
set_option linter.unusedSimpArgs false
set_option linter.unusedVariables false
set_option linter.unusedSimpArgs false
namespace Go.Proofs.YtieiiabbeglmfaaGreatDoor.S19
set_option maxRecDepth 100000
set_option maxHeartbeats 16000000
open Go.Proofs.YtieiiabbeglmfaaGreatDoor Go.Proofs.YtieiiabbeglmfaaGreatDoor.S11 Go.Proofs.YtieiiabbeglmfaaGreatDoor.S12 Go.Proofs.YtieiiabbeglmfaaGreatDoor.S13 Go.Proofs.YtieiiabbeglmfaaGreatDoor.S14 Go.Proofs.YtieiiabbeglmfaaGreatDoor.S15 Go.Proofs.YtieiiabbeglmfaaGreatDoor.S16 Go.Proofs.YtieiiabbeglmfaaGreatDoor.S18
open Go.RowKit
def sdD (d : Nat) : Sd := { sdN 0 9 with D := [d] }
theorem at0_d {X : Wm} {d : Nat} (h : At0 X 0 9 [d]) : X.sd = sdD d := by
  unfold Wm.sd sdD sdN
  rw [h.L, h.n, h.k, h.a, h.was, h.is, h.T, h.most, h.D, h.pf, h.pn, h.pk, h.pp, h.lk, h.tM, h.nD, h.sp, h.tk]
theorem new_fair {w : World} {g d : Nat} {t : TypeId} (hg : w.heap[g]? = some (.cells #[.int .u64 (d : Int)] t (0, 0))) (hd : d ≤ 18446744073709551615) :
    Calls Tryz.prog 32 #[.agg #[.int .i64 0, .int .u64 9, .slice (some ⟨g, 0, none⟩) 1 1]] w fun e w' => NewW w w' 0 9 [d] e := by
  have hlt : g < w.heap.size := (Array.getElem?_eq_some_iff.1 hg).1
  have c0 : w.cell? ⟨g, 0, none⟩ = some (.int .u64 (d : Int)) := cell_row hg 0
  refine new_yes 0 9 1 1 (some ⟨g, 0, none⟩) (by decide) (fun W hW => ?_)
  have hr : S3.Rd W w.heap.size (some ⟨g, 0, none⟩) [d] := fun _ => ⟨g, 0, rfl, hlt, fun i hi => by
    have hi0 : i = 0 := by simp at hi; omega
    subst hi0
    exact (hW.cell (p := ⟨g, 0, none⟩) hlt).trans c0⟩
  exact S3.new_any (D := [d]) (b2 := w.heap.size) 1 9 (Nat.le_refl _) (by omega) (by omega) hr hW.size (fun x hx => by rw [List.mem_singleton] at hx; omega)
theorem wnD (d : Nat) : Wn (sdD d) (fun _ => []) (fun _ => 0) 0 0 := by
  refine ⟨sd_x, sd_a, sd_l, fun i hi => sd_q i hi, fun i hi => ?_, rfl, rfl, Nat.le_refl _, Nat.le_refl _, Nat.le_refl _⟩
  show ((sdN 0 5).m 2)[i]!.a = 0
  rw [sd_m, S10.fresh_at _ _ (by simpa using hi)]
section
variable {w0 w w' : World} {base WB : Nat} {M : Sd} {H : List Part} {L : List Rows} {q : Nat → List S10.Ent} {ta : Nat → Int} {T k : Nat}
theorem inI2 : S10.InI 2 := by unfold S10.InI; omega
theorem AllS.putT (h : AllS w0 w base WB M H L) {ni : Nat} (hi : ni < (M.m 2).length) : ∃ ts, ∀ W, Below w.heap.size w W → W.cell? ⟨WB, 4, none⟩ = some ts ∧ ∀ ta tf : Int, Calls Tryz.prog 34 #[ts, .agg #[.int .i64 2, .int .i64 (ni : Int)], .agg #[.int .u64 ta, .int .u64 tf]] W fun e w' => e = .returned (.bool true) ∧ AllS w0 w' base WB { M with m := S10.upd M.m 2 ((M.m 2).set ni { (M.m 2)[ni]! with a := ta, f := tf }) } H L ∧ w'.cell? ⟨WB, 4, none⟩ = some ts := by
  obtain ⟨q1, q2, X, hp⟩ := h
  refine ⟨X.ts, fun W hb => ⟨(hp.new hb).k4, fun ta tf => ((hp.new hb).putT_ inI2 hi ta tf).mono ?_⟩⟩
  rintro e w' ⟨rfl, X', h', e4⟩
  exact ⟨rfl, ⟨q1, q2, X', h'⟩, by rw [← e4]; exact h'.k4⟩
theorem AllS.timer (h : AllS w0 w base WB M H L) {ni : Nat} (hi : ni < (M.m 2).length) : ∃ ts, ∀ W, Below w.heap.size w W → W.cell? ⟨WB, 4, none⟩ = some ts ∧ Calls Tryz.prog 35 #[ts, .agg #[.int .i64 2, .int .i64 (ni : Int)]] W fun e w' => e = .returned (.agg #[.int .u64 (M.m 2)[ni]!.a, .int .u64 (M.m 2)[ni]!.f]) ∧ Below W.heap.size W w' := by
  obtain ⟨q1, q2, X, hp⟩ := h
  refine ⟨X.ts, fun W hb => ⟨(hp.new hb).k4, ?_⟩⟩
  obtain ⟨Fs, hr⟩ := (hp.new hb).pw.tables.rs
  rw [show X.tM = M.m from congrArg Sd.m hp.xm] at hr
  exact S10.timer_yes hr inI2 hi
theorem AllS.tik (h : AllS w0 w base WB M H L) : ∃ kB, ∀ W, Below w.heap.size w W → W.cell? ⟨WB, 1, none⟩ = some (Pw kB) ∧ ∀ n : Nat, n ≤ 18446744073709551615 → Calls Tryz.prog 15 #[Pw kB, .int .u64 (n : Int)] W fun e w' => e = .returned (.tuple #[]) ∧ AllS w0 w' base WB (M.tick n) H L := by
  obtain ⟨q1, q2, X, hp⟩ := h
  refine ⟨X.kB, fun W b => ⟨(hp.new b).k1, fun n hn => (Pg.tick_ (hp.new b) n hn).mono ?_⟩⟩
  rintro e w' ⟨rfl, X', h'⟩
  exact ⟨rfl, q1, q2, X', h'⟩
theorem left_ {B T most base : Nat} {s : Value} {D : List Nat} (h : S3.ClockAt w base B T most s D) : Calls Tryz.prog 36 #[Pw B] w fun e w' => e = .returned (.int .i64 (D.length : Int)) ∧ w = w' := by
  have c2 : w.cell? ⟨B, 2, none⟩ = some s := cell_row h.row 2
  obtain ⟨A, cap, rfl, _⟩ := h.own
  clear h
  go_enter Tryz.func36, Tryz.ntmps36
  go_wp2_with fail
  go_ret
  exact ⟨rfl, rfl⟩
theorem AllS.left (h : AllS w0 w base WB M H L) : ∃ kB, ∀ W, Below w.heap.size w W → W.cell? ⟨WB, 1, none⟩ = some (Pw kB) ∧ Calls Tryz.prog 36 #[Pw kB] W fun e w' => e = .returned (.int .i64 (M.D.length : Int)) ∧ W = w' := by
  obtain ⟨q1, q2, X, hp⟩ := h
  refine ⟨X.kB, fun W hb => ⟨(hp.new hb).k1, ?_⟩⟩
  rw [show M.D = X.D from (congrArg Sd.D hp.xm).symm]
  exact left_ (hp.new hb).pw.clock
theorem Wn.putT (wn : Wn M q ta T k) {ni : Nat} (hi : ni < 4) (a f : Int) : Wn { M with m := S10.upd M.m 2 ((M.m 2).set ni { (M.m 2)[ni]! with a := a, f := f }) } q (fun i => if i = ni then a else ta i) T k := by
  have e : ∀ j, j < 4 → ((M.m 2).set ni { (M.m 2)[ni]! with a := a, f := f })[j]! = if j = ni then { (M.m 2)[ni]! with a := a, f := f } else (M.m 2)[j]! := fun j hj => by
    rw [getElem!_pos _ j (by rw [List.length_set, wn.len]; exact hj), List.getElem_set]
    by_cases h : ni = j
    · rw [if_pos h, if_pos h.symm]
    · rw [if_neg h, if_neg (fun e => h e.symm), getElem!_pos _ j (by rw [wn.len]; exact hj)]
  have e2 : ({ M with m := S10.upd M.m 2 ((M.m 2).set ni { (M.m 2)[ni]! with a := a, f := f }) } : Sd).m 2 = (M.m 2).set ni { (M.m 2)[ni]! with a := a, f := f } := by
    show S10.upd M.m 2 ((M.m 2).set ni { (M.m 2)[ni]! with a := a, f := f }) 2 = _
    exact S10.upd_same _ _ _
  refine ⟨wn.x, wn.a0, by rw [e2, List.length_set]; exact wn.len, fun i h4 => ?_, fun i h4 => ?_, wn.T, wn.sp, wn.n, wn.p, wn.nD⟩
  · unfold qAt
    rw [e2, e i h4]
    by_cases h : i = ni
    · rw [if_pos h, ← h]; exact wn.q i h4
    · rw [if_neg h]; exact wn.q i h4
  · rw [e2, e i h4]
    by_cases h : i = ni
    · rw [if_pos h, if_pos h]
    · rw [if_neg h, if_neg h]; exact wn.tm i h4
theorem Wn.tick (wn : Wn M q ta T k) (n : Nat) (hn : T + n ≤ 18446744073709551615) : Wn (M.tick n) q ta (T + n) k :=
  ⟨wn.x, wn.a0, wn.len, wn.q, wn.tm, by show S3.sat M.T n = _; rw [wn.T]; unfold S3.sat; rw [if_pos hn], wn.sp, wn.n, wn.p, wn.nD⟩
end
section
variable {w0 w w' : World} {base WB : Nat} {M : Sd} {q : Nat → List S10.Ent} {ta : Nat → Int} {T k : Nat} {r : List Part} {j e u B : Nat} {D : Od}
theorem fires_vac {i : Nat} (wn : Wn M q ta T k) (hkey : D.k < 4294967296) (hB : oneB M D (lokN D.k 2) (bktN D.k 2) = false) (h1 : (oitn (M, on0 D) i).2.ln = 1 → i < 3) : (oitn (M, on0 D) i).2.ln = 1 → (enE (oitn (M, on0 D) i).1 (oitn (M, on0 D) i).2.E).ln = 0 → Fires w0 base WB (oitn (M, on0 D) i).1 j (oitn (M, on0 D) i).2 := by
  intro hl h0
  obtain ⟨e1, e2, e3⟩ := orun_at (wn.pl D.k) hkey (h1 hl) h0
  have eD : (oitn (M, on0 D) i).2.D = D := by rw [((orun_in (wn.pl D.k) hkey).1 i (h1 hl)).2]; rfl
  unfold Fires
  rw [e1, e2, eD, bits2]
  intro W rr ll X' hb hW
  have hb' : oneB M D (lokN D.k 2) (bktN D.k 2) = true := hb
  rw [hB] at hb'
  exact absurd hb' (by decide)
theorem fires_due {i : Nat} (wn : Wn M q ta T k) (hkey : D.k < 4294967296) (hf : ta (bktN D.k 2) < (T : Int)) (h1 : (oitn (M, on0 D) i).2.ln = 1 → i < 3) : (oitn (M, on0 D) i).2.ln = 1 → (enE (oitn (M, on0 D) i).1 (oitn (M, on0 D) i).2.E).ln = 0 → Fires w0 base WB (oitn (M, on0 D) i).1 j (oitn (M, on0 D) i).2 := by
  intro hl h0
  have h4 := bkt4 D.k
  obtain ⟨e1, e2, e3⟩ := orun_at (wn.pl D.k) hkey (h1 hl) h0
  have eD : (oitn (M, on0 D) i).2.D = D := by rw [((orun_in (wn.pl D.k) hkey).1 i (h1 hl)).2]; rfl
  have hp := fire_pre (M := M) (t := D.t) (ky := D.k) (a := lokN D.k 2) wn.len h4
  have htm := wn.tm _ h4
  unfold Fires
  rw [e1, e2, eD, bits2]
  intro W rr ll X' hb hW
  clear hb e1 e2 e3 eD h0 hl h1 hkey
  generalize lokN D.k 2 = a at *
  generalize bktN D.k 2 = pi at *
  obtain ⟨Nn, hN⟩ : ∃ Nn, Nn = takeN (mE M a 2) D.t ((2 : Nat) : Int) pi D.k := ⟨_, rfl⟩
  rw [← hN] at hp hW ⊢
  clear hN
  have hd : (Nn.m ((2 : Nat) : Int))[pi]!.a < (Nn.T : Int) := by rw [hp.1, hp.2.2, wn.T, htm]; exact hf
  have hfb : fireB Nn ((2 : Nat) : Int) pi = true := decide_eq_true hd
  have hfm : fireM Nn ((2 : Nat) : Int) pi = { Nn with D := Nn.D.tail, m := S10.upd Nn.m ((2 : Nat) : Int) ((Nn.m ((2 : Nat) : Int)).set pi { (Nn.m ((2 : Nat) : Int))[pi]! with a := ((S8.sat Nn.T (drawN Nn.D Nn.most) : Nat) : Int), f := (Nn.T : Int) }) } := by unfold fireM; rw [hfb]; exact if_pos rfl
  rw [hfb, hfm]
  refine (fire_due hW.pg inI2b (by rw [hp.2.1]; exact h4) hd).mono ?_
  rintro e w' ⟨rfl, X2, h'⟩
  exact ⟨rfl, X2, hW.pgq h'⟩
structure FairR (M M' : Sd) (pi : Nat) (fair : Bool) : Prop where
  len : (M'.m 2).length = 4
  d : M'.D = if fair = true then M.D.tail else M.D
  a : (M'.m 2)[pi]!.a = if fair = true then ((S8.sat M.T (drawN M.D M.most) : Nat) : Int) else (M.m 2)[pi]!.a
  f : (M'.m 2)[pi]!.f = if fair = true then (M.T : Int) else (M.m 2)[pi]!.f
theorem putq_at {i : Nat} {Q : List S10.Ent} (hl : (M.m 2).length = 4) (hi : i < 4) : ((M.putq ((2 : Nat) : Int) i Q).m 2)[i]! = { (M.m 2)[i]! with q := Q } := by
  have e : (M.putq ((2 : Nat) : Int) i Q).m 2 = (M.m 2).set i { (M.m 2)[i]! with q := Q } := S10.upd_same M.m ((2 : Nat) : Int) _
  rw [e, getElem!_pos _ i (by rw [List.length_set, hl]; exact hi), List.getElem_set_self]
theorem fair_no (wn : Wn M q ta T k) {a pi : Nat} (h4 : pi < 4) (hB : oneB M D a pi = false) : FairR M ((oneM M D a pi).acc 5 a 0) pi false ∧ oneR M D a pi = roN := by
  have e : oneM M D a pi = mE M a 2 := no_e hB
  refine ⟨⟨?_, ?_, ?_, ?_⟩, ?_⟩
  · rw [e]; exact wn.len
  · rw [e]; rfl
  · rw [e]; rfl
  · rw [e]; rfl
  · unfold oneR takeR
    unfold oneB at hB
    rw [hB]; exact if_neg (by decide)
theorem fair_yes (wn : Wn M q ta T k) {a pi : Nat} (h4 : pi < 4) (hB : oneB M D a pi = true) : FairR M (oneU M D a pi) pi (decide (ta pi < (T : Int))) ∧ (oneR M D a pi).fair = decide (ta pi < (T : Int)) := by
  obtain ⟨lf, hlf⟩ : ∃ lf, lf = takeL (mE M a 2) ((2 : Nat) : Int) pi D.k := ⟨_, rfl⟩
  obtain ⟨Nn, hN⟩ : ∃ Nn, Nn = takeN (mE M a 2) D.t ((2 : Nat) : Int) pi D.k := ⟨_, rfl⟩
  have hNm : Nn.m = ((mE M a 2).putq ((2 : Nat) : Int) pi lf).m := by rw [hN, hlf]; rfl
  have hNT : Nn.T = M.T := by rw [hN]; rfl
  have hND : Nn.D = M.D := by rw [hN]; rfl
  have hNK : Nn.most = M.most := by rw [hN]; rfl
  have hat : (Nn.m ((2 : Nat) : Int))[pi]! = { (M.m 2)[pi]! with q := lf } := by rw [hNm]; exact putq_at (M := mE M a 2) wn.len h4
  have hlen : (Nn.m ((2 : Nat) : Int)).length = 4 := by rw [hNm]; exact (putq_q (M := mE M a 2) wn.len h4).1
  have hfb : fireB Nn ((2 : Nat) : Int) pi = decide (ta pi < (T : Int)) := by
    unfold fireB
    rw [hat, hNT, wn.T]
    show decide ((M.m 2)[pi]!.a < (T : Int)) = _
    rw [wn.tm pi h4]
  have hb' : takeB (mE M a 2) ((2 : Nat) : Int) pi D.k = true := hB
  have hM : oneM M D a pi = fireM Nn ((2 : Nat) : Int) pi := by
    unfold oneM takeM
    rw [if_pos hb', ← hN]
  have hR : (oneR M D a pi).fair = fireB Nn ((2 : Nat) : Int) pi := by
    unfold oneR takeR
    rw [if_pos hb', ← hN]
  refine ⟨?_, hR.trans hfb⟩
  have hm : (oneU M D a pi).m = (oneM M D a pi).m := rfl
  have hd : (oneU M D a pi).D = (oneM M D a pi).D := rfl
  obtain ⟨b, hb⟩ : ∃ b, b = decide (ta pi < (T : Int)) := ⟨_, rfl⟩
  rw [← hb] at hfb ⊢
  cases b
  · have e : fireM Nn ((2 : Nat) : Int) pi = Nn := by unfold fireM; rw [hfb]; exact if_neg (by decide)
    rw [e] at hM
    refine ⟨by rw [hm, hM]; exact hlen, by rw [hd, hM]; exact hND, ?_, ?_⟩
    · rw [hm, hM]; show (Nn.m ((2 : Nat) : Int))[pi]!.a = _; rw [hat]; rfl
    · rw [hm, hM]; show (Nn.m ((2 : Nat) : Int))[pi]!.f = _; rw [hat]; rfl
  · have e : fireM Nn ((2 : Nat) : Int) pi = { Nn with D := Nn.D.tail, m := S10.upd Nn.m ((2 : Nat) : Int) ((Nn.m ((2 : Nat) : Int)).set pi { (Nn.m ((2 : Nat) : Int))[pi]! with a := ((S8.sat Nn.T (drawN Nn.D Nn.most) : Nat) : Int), f := (Nn.T : Int) }) } := by unfold fireM; rw [hfb]; exact if_pos rfl
    rw [e] at hM
    have e2 : (oneU M D a pi).m 2 = (Nn.m ((2 : Nat) : Int)).set pi { (Nn.m ((2 : Nat) : Int))[pi]! with a := ((S8.sat Nn.T (drawN Nn.D Nn.most) : Nat) : Int), f := (Nn.T : Int) } := by
      rw [hm, hM]
      exact S10.upd_same Nn.m ((2 : Nat) : Int) _
    have e3 : ((oneU M D a pi).m 2)[pi]! = { (Nn.m ((2 : Nat) : Int))[pi]! with a := ((S8.sat Nn.T (drawN Nn.D Nn.most) : Nat) : Int), f := (Nn.T : Int) } := by
      rw [e2, getElem!_pos _ pi (by rw [List.length_set, hlen]; exact h4), List.getElem_set_self]
    refine ⟨by rw [e2, List.length_set]; exact hlen, by rw [hd, hM]; show Nn.D.tail = _; rw [hND]; rfl, ?_, ?_⟩
    · rw [e3, hNT, hND, hNK]; rfl
    · rw [e3, hNT]; rfl
end
end Go.Proofs.YtieiiabbeglmfaaGreatDoor.S19
set_option linter.unusedVariables false
set_option linter.unusedSimpArgs false
namespace Go.Proofs.YtieiiabbeglmfaaGreatDoor.S19
set_option maxRecDepth 100000
set_option maxHeartbeats 16000000
open Go.Proofs.YtieiiabbeglmfaaGreatDoor Go.Proofs.YtieiiabbeglmfaaGreatDoor.S11 Go.Proofs.YtieiiabbeglmfaaGreatDoor.S12 Go.Proofs.YtieiiabbeglmfaaGreatDoor.S13 Go.Proofs.YtieiiabbeglmfaaGreatDoor.S14 Go.Proofs.YtieiiabbeglmfaaGreatDoor.S15 Go.Proofs.YtieiiabbeglmfaaGreatDoor.S16 Go.Proofs.YtieiiabbeglmfaaGreatDoor.S18
open Go.RowKit
def SlpAll (ks : List Nat) (n : Nat) (L : List Rows) (Bs : List Nat) : Prop := L.length = n ∧ Bs.length = n ∧ ∀ i, i < n → ∃ l E F, L[i]? = some l ∧ Slp l ⟨8, sD ks i, 2, bktN (kyN ks[i]!) 2, E, F, 0, 0⟩ Bs[i]!
theorem SlpAll.next {ks : List Nat} {n : Nat} {L : List Rows} {Bs : List Nat} (h : SlpAll ks n L Bs) {l : Rows} {E : En} {F : Fr} {B : Nat} (s : Slp l ⟨8, sD ks n, 2, bktN (sD ks n).k 2, E, F, 0, 0⟩ B) : SlpAll ks (n + 1) (L ++ [l]) (Bs ++ [B]) := by
  obtain ⟨h1, h2, h3⟩ := h
  refine ⟨by simp [h1], by simp [h2], fun i hi => ?_⟩
  by_cases hin : i < n
  · obtain ⟨l', E', F', g1, g2⟩ := h3 i hin
    refine ⟨l', E', F', by rw [List.getElem?_append_left (by omega)]; exact g1, ?_⟩
    rw [getElem!_pos (Bs ++ [B]) i (by simp; omega), List.getElem_append_left (by omega)]
    rw [getElem!_pos Bs i (by omega)] at g2
    exact g2
  · obtain rfl : i = n := by omega
    refine ⟨l, E, F, by rw [List.getElem?_append_right (by omega), h1, Nat.sub_self]; rfl, ?_⟩
    rw [getElem!_pos (Bs ++ [B]) i (by simp; omega), List.getElem_append_right (by omega)]
    simp only [h2, Nat.sub_self, List.getElem_cons_zero]
    exact s
section
variable {w0 w w' : World} {base WB : Nat} {M : Sd} {H : List Part}
theorem sleeping_any {ks : List Nat} {A : Option Addr} {c k : Nat} {ta : Nat → Int} {T : Nat} (hT : Tab w0) (hb : 0 < base) (h : AllS w0 w base WB M (noP :: H) []) (wn : Wn M (fun _ => []) ta T k) (hk : k ≤ 1000) (hn : ks.length ≤ 60) (hks : ∀ i, i < ks.length → ks[i]! < 256)
    (hin : ∀ W M' p L', AllS w0 W base WB M' (p :: H) L' → ∀ i, i < ks.length → ∃ g o, A = some ⟨g, o, none⟩ ∧ W.cell? ⟨g, o + i, none⟩ = some (.int .u8 (ks[i]! : Int))) :
    Calls Tryz.prog 27 #[Pw WB, .slice A ks.length c] w fun e' w' => ∃ v M' L Bs, e' = .returned v ∧ AllS w0 w' base WB M' (intsP v ks.length (ptrs Bs) :: H) L ∧ SlpAll ks ks.length L Bs ∧ Wn M' (sQ ks ks.length) ta T (k + 10 * ks.length) ∧ (∀ i, i < ks.length → M'.pf (2 * i) = ⟨false, true, false, 0⟩) ∧ M'.tk = M.tk ∧ (∀ b : Int, b ≠ 2 → M'.m b = M.m b) ∧ M'.D = M.D ∧ M'.most = M.most := by
  have h1 : AllS w0 w base WB M (intsP (.slice none 0 0) 0 [] :: H) [] := h.turnH (a := 0) rfl (intsP (.slice none 0 0) 0 []) (S10.row_nil _ _ _) (Turns.refl _ _) (fun k e => by cases e)
  have HH := Lib.hid h1; have HT := Lib.hid (And.intro hT hb); have HWN := Lib.hid wn; have HK := Lib.hid (And.intro hk hn); have HKS := Lib.hid hks; have HIN := Lib.hid hin
  obtain ⟨n, hnn⟩ : ∃ n, n = ks.length := ⟨_, rfl⟩
  rw [← hnn] at HK HKS HIN ⊢
  have HN := Lib.hid hnn
  clear h h1 hT hb wn hk hn hks hin hnn
  go_enter Tryz.func27, Tryz.ntmps27
  go_wp2_with fail
  go_loopg [5, 6, 7] n (fun q s5 s6 s7 wx => ∃ (i : Nat) (M' : Sd) (L : List Rows) (Bs : List Nat), i ≤ n ∧ q = n - i ∧ s6 = .int .i64 (i : Int) ∧ AllS w0 wx base WB M' (intsP s5 i (ptrs Bs) :: H) L ∧ SlpAll ks i L Bs ∧ Wn M' (sQ ks i) ta T (k + 10 * i) ∧ (∀ j, j < i → M'.pf (2 * j) = ⟨false, true, false, 0⟩) ∧ M'.tk = M.tk ∧ (∀ b : Int, b ≠ 2 → M'.m b = M.m b) ∧ M'.D = M.D ∧ M'.most = M.most)
  case atStart => exact ⟨0, M, [], [], by omega, by omega, rfl, HH.out, ⟨rfl, rfl, fun i hi => by omega⟩, HWN.out, fun j hj => by omega, rfl, fun b _ => rfl, rfl, rfl⟩
  case round =>
    obtain ⟨i, M', L, Bs, hi, rfl, rfl, ha, hs, hw, hpf, htk, hmx, hdm⟩ := hrel
    have HA := Lib.hid ha; have HS := Lib.hid hs; have HW := Lib.hid hw; have HPF := Lib.hid hpf; have HTK := Lib.hid htk; have HMX := Lib.hid hmx; have HDM := Lib.hid hdm; have HI0 := Lib.hid hi
    clear ha hs hw hpf htk hmx hdm
    have hr0 : S10.Row wr 0 1 u5 i (ptrs Bs) := HA.out.partH (a := 0) rfl
    obtain ⟨A5, c5, hs5, h5c, h5m⟩ := hr0.shape
    subst hs5
    clear hr0
    by_cases hin : i < n
    · obtain ⟨g, og, rfl, hc⟩ := HIN.out _ _ _ _ HA.out i hin
      obtain ⟨b, hbb⟩ : ∃ b, b = ks[i]! := ⟨_, rfl⟩
      have hb256 := HKS.out i hin
      rw [← hbb] at hc hb256
      have d1 : decide ((i : Int) < (n : Int)) = true := decide_eq_true (by omega)
      have d2 : decide (i < n) = true := decide_eq_true hin
      obtain ⟨bm, hbm⟩ : ∃ bm, bm = b % 4 := ⟨_, rfl⟩
      obtain ⟨k4, hk4⟩ : ∃ k4, k4 = 4 * bm := ⟨_, rfl⟩
      have x1 : (b : Int).tmod 4 = (bm : Int) := by rw [Int.tmod_eq_emod_of_nonneg (by omega)]; omega
      have x1' : (b : Int) % 4 = (bm : Int) := by omega
      have x2 : IntKind.u8.wrap (bm : Int) = (bm : Int) := by rw [IntKind.wrap_u8]; omega
      have x3 : IntKind.u32.wrap (bm : Int) = (bm : Int) := by rw [IntKind.wrap_u32]; omega
      have x4 : IntKind.u32.wrap (4 * (bm : Int)) = (k4 : Int) := by rw [IntKind.wrap_u32]; omega
      have x5 : IntKind.u32.wrap (1152 + (k4 : Int)) = ((kyN b : Nat) : Int) := by rw [IntKind.wrap_u32]; unfold kyN; omega
      have x6 : IntKind.u64.wrap (i : Int) = (i : Int) := by rw [IntKind.wrap_u64]; have := HK.out; omega
      have hD : sD ks i = ⟨i, kyN b, i, false, 0, none⟩ := by unfold sD; rw [← hbb]
      have hi60 : i < 60 := by have := HK.out; omega
      have hk32 : kyN b < 4294967296 := by unfold kyN; omega
      have hnew := HA.out.newpark (v := .nilIface) (D := ⟨i, kyN b, i, false, 0, none⟩) (.inr ⟨rfl, rfl⟩) rfl (by show i < 64; omega) hk32
      have HNEW : Hid (Calls Tryz.prog 11 #[.int .i64 (i : Int), .int .u32 ((kyN b : Nat) : Int), .int .u64 (i : Int), .agg #[.bool false, .int .u64 0], .nilIface] wr _) := Lib.hid hnew
      have HD := Lib.hid hD; have HI := Lib.hid (And.intro hin (And.intro hi60 hk32))
      clear hnew hbb hb256 hD hi60 hk32 hbm hk4
      generalize kyN b = ky at *
      go_upto_region 6 with (go_at_call 11; refine HNEW.out.mono ?_; rintro e w2 ⟨B, rfl, h2⟩; have H2 := Lib.hid h2; clear h2)
      clear HNEW x1 x1' x2 x3 x4 x5 x6 hc d1 d2
      have hsl := sleep_s (D := ⟨i, ky, i, false, 0, none⟩) HT.out.1 HT.out.2 HW.out (by have := HI.out.2.1; have := HK.out.1; omega) (fun b => Nat.le_trans (sQ_len ks i b) (by have := HI.out.2.1; omega)) (by show i < 64; have := HI.out.2.1; omega) HI.out.2.2 rfl rfl H2.out
      have HSL : Hid (Calls Tryz.prog 12 #[Pw WB, Pw B, .int .i64 (i : Int)] w2 _) := Lib.hid hsl
      clear hsl
      go_wp2_with (first
        | (go_at_call 12; refine HSL.out.mono ?_; rintro e w3 ⟨rfl, M4, l4, E4, F4, h4, hs4, hw4, hp4, hpf4, htk4, hpe4, hmx4, hdm4⟩; have H4 := Lib.hid h4; have HS4 := Lib.hid hs4; have HW4 := Lib.hid hw4; have HP4 := Lib.hid (And.intro hpf4 (And.intro htk4 (And.intro hpe4 (And.intro hmx4 hdm4)))); have hr0 : S10.Row w3 0 1 (.slice A5 i c5) i (ptrs Bs) := h4.partH (a := 0) rfl; clear h4 hs4 hw4 hp4 hpf4 htk4 hpe4 hmx4 hdm4)
        | (at_builtin; refine S10.wpList_append_row layP rfl _ _ rfl rfl (hr0.alloc _) (fun u hu => by obtain ⟨x, _, rfl⟩ := List.mem_map.1 hu; rfl) (Nat.zero_le _) 1 rfl (S10.rd_one1 w3 (Pw B) 32) rfl (fun u hu => by rw [List.mem_singleton] at hu; rw [hu]; rfl) (by have := HI.out.2.1; omega) ?_; intro v5 w5 hr5 ht5 ho5; have H5 := Lib.hid (H4.out.app (a := 0) rfl (below1 w3 _) hr5 ht5 ho5); clear hr5 ht5 ho5))
      go_roundg (n - (i + 1))
      case measure => have := HI.out.1; omega
      case rel =>
        have h9 := HI.out.1
        have h8 := HI.out.2.1
        have e3 : ptrs (Bs ++ [B]) = ptrs Bs ++ [Pw B] := by unfold ptrs; rw [List.map_append]; rfl
        have hq := sQ_next ks i
        rw [HD.out] at hq
        refine ⟨i + 1, M4, L ++ [l4], Bs ++ [B], h9, by omega, congrArg (Value.int .i64) (by first | omega | (unfold wrap64; omega)), ?_, HS.out.next (E := E4) (F := F4) (by rw [HD.out]; exact HS4.out), ?_, fun j hj => ?_, HP4.out.2.1.trans HTK.out, fun b hb => (HP4.out.2.2.2.1 b hb).trans (HMX.out b hb), HP4.out.2.2.2.2.1.trans HDM.out.1, HP4.out.2.2.2.2.2.trans HDM.out.2⟩
        · rw [e3]; exact H5.out
        · rw [← hq]; exact HW4.out.mono (by omega)
        · by_cases hji : j = i
          · rw [hji]; exact HP4.out.2.2.1
          · rw [HP4.out.1 (2 * j) (by show 2 * j ≠ 2 * i; omega)]
            exact HPF.out j (by omega)
    · obtain rfl : i = n := by have := HI0.out; omega
      have d1 : decide ((i : Int) < (i : Int)) = false := decide_eq_false (by omega)
      have d2 : decide (i < i) = false := decide_eq_false (by omega)
      go_wp2_with fail
      go_ret
      exact ⟨_, M', L, Bs, rfl, HA.out, HS.out, HW.out, HPF.out, HTK.out, HMX.out, HDM.out.1, HDM.out.2⟩
end
end Go.Proofs.YtieiiabbeglmfaaGreatDoor.S19
set_option linter.unusedVariables false
set_option linter.unusedSimpArgs false
namespace Go.Proofs.YtieiiabbeglmfaaGreatDoor.S19
open Go.Proofs.YtieiiabbeglmfaaGreatDoor Go.Proofs.YtieiiabbeglmfaaGreatDoor.S11 Go.Proofs.YtieiiabbeglmfaaGreatDoor.S12 Go.Proofs.YtieiiabbeglmfaaGreatDoor.S13 Go.Proofs.YtieiiabbeglmfaaGreatDoor.S14 Go.Proofs.YtieiiabbeglmfaaGreatDoor.S15 Go.Proofs.YtieiiabbeglmfaaGreatDoor.S16 Go.Proofs.YtieiiabbeglmfaaGreatDoor.S18
open Go.RowKit
section
variable {w0 w w' : World} {base WB : Nat} {M : Sd} {q : Nat → List S10.Ent} {ta : Nat → Int} {T k : Nat} {r : List Part} {j e u B : Nat}
def DF : Od := ⟨5, 1152, 0⟩
theorem ask_fair {Q : Bool} (hT : Tab w0) (hb : 0 < base) (wn : Wn M q ta T k) (hk : k ≤ 50000) (hq : ∀ i, (q i).length ≤ 100) (hqq : (∀ i, q i = []) ∧ Q = false ∨ q = sQ [0] 1 ∧ Q = true) (h : OnR w0 w base WB M r j e u (on0 DF) B) :
    Calls Tryz.prog 16 #[Pw WB, .iface 76 (Pw B), .int .i64 20] w fun e' w' => (∃ n : Nat, n ≠ 0 ∧ e' = .returned (.int .i64 (n : Int))) ∧ ∃ M' P', OnR w0 w' base WB M' r j e u P' B ∧ P'.told = true ∧ P'.R.fair = (Q && decide (ta (bktN 1152 2) < (T : Int))) ∧ FairR M M' (bktN 1152 2) (Q && decide (ta (bktN 1152 2) < (T : Int))) := by
  have hkey : DF.k < 4294967296 := by show 1152 < 4294967296; omega
  have h4 := bkt4 1152
  rcases hqq with ⟨h0, rfl⟩ | ⟨h1, rfl⟩
  · have hB : oneB M DF (lokN DF.k 2) (bktN DF.k 2) = false := by rw [wn.oneB DF, h0]; rfl
    obtain ⟨f1, f2⟩ := fair_no (D := DF) (a := lokN DF.k 2) wn h4 hB
    refine (one_noF (D := DF) (most := 20) hT hb wn hk hq hkey (fun _ h1 => fires_vac wn hkey hB h1) hB (by omega) h).mono ?_
    rintro e' w' ⟨rfl, P', h', p1, p2, p3⟩
    exact ⟨⟨4, by omega, rfl⟩, _, P', h', p3, by rw [p2]; rfl, f1⟩
  · have hs : sQ [0] 1 = sQg [0] (fun _ => false) := sQ_sQg [0]
    have hw : wS [0] (fun _ => false) 0 0 = 0 :: [] := by decide
    obtain ⟨y1, y2, y3, y4⟩ := ask_yes hw
    have hqb : q (bktN DF.k 2) = sQg [0] (fun _ => false) (bktN (kyN 0) 2) := by rw [h1, hs]; rfl
    have hB : oneB M DF (lokN DF.k 2) (bktN DF.k 2) = true := by rw [wn.oneB DF, hqb]; exact y1
    obtain ⟨f1, f2⟩ := fair_yes (D := DF) (a := lokN DF.k 2) wn h4 hB
    have hth : (oneR M DF (lokN DF.k 2) (bktN DF.k 2)).th = 0 := by
      have hb' : takeB (mE M (lokN DF.k 2) 2) ((2 : Nat) : Int) (bktN DF.k 2) DF.k = true := hB
      have hq' : qAt (mE M (lokN DF.k 2) 2) ((2 : Nat) : Int) (bktN DF.k 2) = q (bktN DF.k 2) := wn.q _ (bkt4 DF.k)
      unfold oneR takeR
      rw [if_pos hb']
      show (S10.cutE (qAt (mE M (lokN DF.k 2) 2) ((2 : Nat) : Int) (bktN DF.k 2)) (S10.idx (S10.byKey (DF.k : Int)) (qAt (mE M (lokN DF.k 2) 2) ((2 : Nat) : Int) (bktN DF.k 2)))).t = 0
      rw [hq', hqb]
      exact y2
    rw [Bool.true_and]
    have hrun : Calls Tryz.prog 16 #[Pw WB, .iface 76 (Pw B), .int .i64 ((20 : Nat) : Int)] w fun e' w' => e' = .returned (.int .i64 5) ∧ ∃ P', OnR w0 w' base WB (oneU M DF (lokN DF.k 2) (bktN DF.k 2)) r j e u P' B ∧ P'.ln = 0 ∧ P'.R = oneR M DF (lokN DF.k 2) (bktN DF.k 2) ∧ P'.told = true := by
      by_cases hd : ta (bktN DF.k 2) < (T : Int)
      · exact one_yesF (D := DF) hT hb wn hk hq hkey (fun _ h1 => fires_due wn hkey hd h1) hB (by rw [hth]; omega) (by omega) h
      · exact one_yesF (D := DF) hT hb wn hk hq hkey (fun _ h1 => fires_no wn hkey hd h1) hB (by rw [hth]; omega) (by omega) h
    refine hrun.mono ?_
    rintro e' w' ⟨rfl, P', h', p1, p2, p3⟩
    exact ⟨⟨5, by omega, rfl⟩, _, P', h', p3, by rw [p2]; exact f2, f1⟩
end
end Go.Proofs.YtieiiabbeglmfaaGreatDoor.S19
