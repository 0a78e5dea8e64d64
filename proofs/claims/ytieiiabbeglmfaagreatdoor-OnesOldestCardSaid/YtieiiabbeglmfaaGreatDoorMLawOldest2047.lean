/- Texts of this seat, one behind the other. -/
import Derived.Test.YtieiiabbeglmfaaGreatDoorMLawOldest2045
import Derived.Test.YtieiiabbeglmfaaGreatDoorMLawOldest2046
import Derived.LoopTactic
import Derived.Deep.LoopGhost
set_option linter.unusedVariables false
set_option linter.unusedSimpArgs false
set_option linter.unusedVariables false
set_option linter.unusedSimpArgs false
namespace Go.Proofs.YtieiiabbeglmfaaGreatDoor.S19
set_option maxRecDepth 100000
set_option maxHeartbeats 16000000
open Go.Proofs.YtieiiabbeglmfaaGreatDoor Go.Proofs.YtieiiabbeglmfaaGreatDoor.S11 Go.Proofs.YtieiiabbeglmfaaGreatDoor.S12 Go.Proofs.YtieiiabbeglmfaaGreatDoor.S13 Go.Proofs.YtieiiabbeglmfaaGreatDoor.S14 Go.Proofs.YtieiiabbeglmfaaGreatDoor.S15 Go.Proofs.YtieiiabbeglmfaaGreatDoor.S16 Go.Proofs.YtieiiabbeglmfaaGreatDoor.S18
open Go.RowKit
section
variable {w0 w w' : World} {base WB : Nat} {M : Sd} {r : List Part} {j e u B : Nat} {X : Wm} {P : On}
def OnR (w0 w : World) (base WB : Nat) (M : Sd) (r : List Part) (j e u : Nat) (P : On) (B : Nat) : Prop := OnOk P ∧ ∃ q1 q2 X, OnW w0 w base WB M ((r.set e q1).set u q2) j e u P B X
theorem OnR.pg (h : OnR w0 w base WB M r j e u P B) : ∃ r' X, Pg w0 w base WB M r' X := by
  obtain ⟨ok, q1, q2, X, h⟩ := h
  obtain ⟨en, lv, hw, _⟩ := h.at'
  exact ⟨_, X, hw.pg⟩
theorem pg_look {r' : List Part} (h : Pg w0 w base WB M r' X) (a : Nat) : S2.look M.L a < 18446744073709551616 := by
  have := S2.look_lt h.pw.cells.good a
  rw [show X.L = M.L from congrArg Sd.L h.xm] at this
  exact this
theorem OnR.new (h : OnR w0 w base WB M r j e u P B) (b : Below w.heap.size w w') : OnR w0 w' base WB M r j e u P B := by
  obtain ⟨ok, q1, q2, X, h⟩ := h
  exact ⟨ok, q1, q2, X, h.new b⟩
theorem OnR.step (h : OnR w0 w base WB M r j e u P B) (g : ORoom w0 base WB M P) (hfi : P.ln = 1 → (enE M P.E).ln = 0 → Fires w0 base WB M j P) :
    Calls Tryz.prog 21 #[Pw B, Pw WB] w fun e' w' => e' = .returned (.bool (decide ((onE M P).ln = 0))) ∧ OnR w0 w' base WB (onM M P) r j e u (onE M P) B := by
  obtain ⟨r', X0, hpg⟩ := h.pg
  obtain ⟨ok, q1, q2, X, h⟩ := h
  have okE := ok.step g.ms (pg_look hpg) (fun k => pg_le hpg k)
  have hs : Calls Tryz.prog 21 #[Pw B, Pw WB] w fun e' w' => e' = .returned (.bool (decide ((onE M P).ln = 0))) ∧ OnS w0 w' base WB M ((r.set e q1).set u q2) j e u P B := by
    have hln := ok.ln; have h2 := ok.l2
    rcases (show P.ln = 0 ∨ P.ln = 1 ∨ P.ln = 3 ∨ P.ln = 4 by omega) with h0 | h1 | h3 | h4
    · have c0 := h.c0
      rw [h0] at c0
      have hM : onM M P = M := by unfold onM; rw [h0]; rfl
      have hE : onE M P = P := by unfold onE; rw [h0]; rfl
      refine (ostep_over c0).mono ?_
      rintro e' w' ⟨rfl, rfl⟩
      refine ⟨by rw [hE, h0]; rfl, q1, q2, X, ?_⟩
      rw [hM, hE, List.set_comm _ _ h.eu.symm, List.set_set, List.set_set]
      exact h
    · exact ol_1 h ok h1 g (hfi h1) (fun W Z X1 hW hs => wq_estep hW hs h.je h.ju ok.e g.ms (by have := g.n; omega) (by have := g.p; omega))
    · exact ol_3 h ok h3 g.p (g.th h3)
    · exact ol_4 h ok h4 g.n g.p
  refine hs.mono ?_
  rintro e' w' ⟨rfl, a1, a2, X', h'⟩
  refine ⟨rfl, okE, a1, a2, X', ?_⟩
  rw [List.set_comm _ _ h.eu.symm, List.set_set, List.set_set] at h'
  exact h'
theorem OnR.over (h : OnR w0 w base WB M r j e u P B) : Calls Tryz.prog 20 #[Pw B] w fun e w' => e = .returned (.bool (decide (P.ln = 0))) ∧ w = w' := by
  obtain ⟨ok, q1, q2, X, h⟩ := h
  exact oover_any h.c0
theorem OnR.got (h : OnR w0 w base WB M r j e u P B) (ht : P.told = true) : Calls Tryz.prog 22 #[Pw B] w fun e w' => e = .returned (roV P.R) ∧ Below w.heap.size w w' := by
  obtain ⟨ok, q1, q2, X, h⟩ := h
  obtain ⟨en, lv, hw, _⟩ := h.at'
  have hb := hw.blk 0 rfl
  rw [ht] at hb
  exact ogot_yes (cell_row hb 4) (cell_row hb 5) (cell_row hb 6) (cell_row hb 7) (cell_row hb 8) (cell_row hb 9) (heap_lt hb)
theorem run_o {n most : Nat} (h : OnR w0 w base WB M r j e u P B) (hn0 : 0 < n) (hnm : n ≤ most) (hm : most ≤ 100) (hr : ∀ i, i < n → ORoom w0 base WB (oitn (M, P) i).1 (oitn (M, P) i).2 ∧ ((oitn (M, P) i).2.ln = 1 → (enE (oitn (M, P) i).1 (oitn (M, P) i).2.E).ln = 0 → Fires w0 base WB (oitn (M, P) i).1 j (oitn (M, P) i).2)) (hpos : ∀ i, i < n → (oitn (M, P) i).2.ln ≠ 0) (hend : (oitn (M, P) n).2.ln = 0) :
    Calls Tryz.prog 16 #[Pw WB, .iface 76 (Pw B), .int .i64 (most : Int)] w fun e' w' => e' = .returned (.int .i64 (n : Int)) ∧ OnR w0 w' base WB (oitn (M, P) n).1 r j e u (oitn (M, P) n).2 B := by
  have hm1 := m_ostep ⟨B, 0, none⟩
  have H := Lib.hid h; have HP := Lib.hid (And.intro hpos hend); have HB := Lib.hid (And.intro hn0 (And.intro hnm hm)); have HR := Lib.hid hr
  clear h hpos hend hn0 hnm hm hr
  go_enter Tryz.func16, Tryz.ntmps16
  go_wp2_with fail
  go_loopg [7] n (fun q s7 wx => ∃ i : Nat, i < n ∧ q = n - i ∧ s7 = .int .i64 ((i + 1 : Nat) : Int) ∧ OnR w0 wx base WB (oitn (M, P) i).1 r j e u (oitn (M, P) i).2 B)
  case atStart => exact ⟨0, HB.out.1, by omega, rfl, H.out⟩
  case round =>
    obtain ⟨i, hi, rfl, rfl, hp⟩ := hrel
    have hst := hp.step (HR.out i hi).1 (HR.out i hi).2
    have hle : ((i + 1 : Nat) : Int) ≤ (most : Int) := by have := HB.out; omega
    have d1 : decide (((i + 1 : Nat) : Int) ≤ (most : Int)) = true := decide_eq_true hle
    have HI := Lib.hid hi
    by_cases he : i + 1 = n
    · have e0 : (onE (oitn (M, P) i).1 (oitn (M, P) i).2).ln = 0 := by
        have := HP.out.2
        rw [← he] at this
        exact this
      rw [decide_eq_true e0] at hst
      have HST2 := Lib.hid hst; have HE := Lib.hid he
      clear hst hp e0 he hi
      go_wp2_with (go_at_call 21; refine HST2.out.mono ?_; rintro e' w6 ⟨rfl, hs⟩)
      go_ret
      refine ⟨by rw [← HE.out]; simp, ?_⟩
      have := hs
      rw [← HE.out]
      exact this
    · have e0 : ¬ (onE (oitn (M, P) i).1 (oitn (M, P) i).2).ln = 0 := HP.out.1 (i + 1) (by omega)
      rw [decide_eq_false e0] at hst
      have HST2 := Lib.hid hst; have HE := Lib.hid he
      have hm9 : i + 1 ≤ 100 := by have := HB.out; omega
      clear hst hp e0 he hi
      go_wp2_with (go_at_call 21; refine HST2.out.mono ?_; rintro e' w6 ⟨rfl, hs⟩)
      go_roundg (n - (i + 1))
      case measure => have := HI.out; omega
      case rel => exact ⟨i + 1, by have := HI.out; have := HE.out; omega, rfl, by go_num, hs⟩
theorem new_one {v : Value} {D : Od} (h : Wq w0 w base WB M r j [] X) (hv : AnOf v D.z) (hje : j ≠ e) (hju : j ≠ u) (he : e < r.length) (hu : u < r.length) (heu : e ≠ u) (ht : D.t < 64) (hk : D.k < 4294967296) (hz : D.z < 18446744073709551616) :
    Calls Tryz.prog 19 #[.int .i64 (D.t : Int), .int .u32 (D.k : Int), v] w fun e' w' => ∃ B, e' = .returned (Pw B) ∧ OnR w0 w' base WB M r j e u (on0 D) B := by
  have HI := Lib.hid (fun W => isth_yes ht W); have HTH := Lib.hid (fun W => othere_any hv W); have HN := Lib.hid (fun W => new_enter D.t D.k ht hk W)
  have HFIN : Hid (∀ W v, NewE w W false D.t D.k v → ∃ Z : Wb, v = Pw Z.B ∧ OnR w0 (W.alloc (.cells (onC 1 D false ro0 (Pw Z.B) (.pointer none)) 75)) base WB M r j e u (on0 D) W.heap.size) := Lib.hid (fun W v hn => by
    obtain ⟨Z, rfl, ha0, hb0, h1, h2, hz0⟩ := hn
    have h3 := h.newWayZ hje he ha0 hb0 hz0
    have h4 := h3.push (.cells (onC 1 D false ro0 (Pw Z.B) (.pointer none)) 75)
    rw [List.nil_append] at h4
    refine ⟨Z, rfl, ok_on ht hk hz, wayP false D.t D.k 0 Z, r[u]'hu, X, hje, hju, heu, by rw [List.length_set, List.length_set]; exact he, by rw [List.length_set, List.length_set]; exact hu, Pw Z.B, .pointer none, ?_, rfl, Z, rfl, ?_⟩
    · have e1 : (r.set e (wayP false D.t D.k 0 Z)).set u (r[u]'hu) = r.set e (wayP false D.t D.k 0 Z) := set_self (by rw [List.getElem?_set_ne heu]; exact List.getElem?_eq_getElem hu)
      rw [e1]; exact h4
    · have e1 : (r.set e (wayP false D.t D.k 0 Z)).set u (r[u]'hu) = r.set e (wayP false D.t D.k 0 Z) := set_self (by rw [List.getElem?_set_ne heu]; exact List.getElem?_eq_getElem hu)
      rw [e1]; exact ews_en h1 h2 he hu heu)
  clear h hv hje hju he hu heu ht hk hz
  go_enter Tryz.func19, Tryz.ntmps19
  go_wp2_with (first
    | (go_at_call 63; refine (HI.out _).mono ?_; rintro e' w1 ⟨rfl, rfl⟩)
    | (go_at_call 64; refine (HTH.out _).mono ?_; rintro e' w2 ⟨rfl, rfl⟩)
    | (go_at_call 65; refine (HN.out _).mono ?_; rintro e' w3 ⟨v3, rfl, hn⟩; obtain ⟨Z, rfl, h3⟩ := HFIN.out _ _ hn; have H3 := Lib.hid h3; clear h3 hn))
  go_ret
  exact ⟨_, rfl, H3.out⟩
end
section
variable {w0 w w' : World} {base WB : Nat} {M : Sd} {H : List Part} {L : List Rows} {B : Nat} {X : Wm}
theorem AllS.done {P : On} (h : OnR w0 w base WB M (rs H (L ++ [[]])) (2 + H.length + L.length) 0 1 P B) : AllS w0 w base WB M H L := by
  obtain ⟨ok, q1, q2, X, h⟩ := h
  obtain ⟨en, lv, hw, _⟩ := h.at'
  have hp := hw.pg
  rw [set01, set_rs, set_last] at hp
  exact AllS.drop ⟨q1, q2, X, hp⟩
theorem AllS.one {v : Value} {D : Od} (h : AllS w0 w base WB M H L) (hv : AnOf v D.z) (ht : D.t < 64) (hk : D.k < 4294967296) (hz : D.z < 18446744073709551616) :
    Calls Tryz.prog 19 #[.int .i64 (D.t : Int), .int .u32 (D.k : Int), v] w fun e' w' => ∃ B, e' = .returned (Pw B) ∧ OnR w0 w' base WB M (rs H (L ++ [[]])) (2 + H.length + L.length) 0 1 (on0 D) B := by
  obtain ⟨X, hw⟩ := h.wq
  exact new_one hw hv (by omega) (by omega) (by simp) (by simp) (by omega) ht hk hz
end
end Go.Proofs.YtieiiabbeglmfaaGreatDoor.S19
set_option linter.unusedVariables false
set_option linter.unusedSimpArgs false
namespace Go.Proofs.YtieiiabbeglmfaaGreatDoor.S19
open Go.Proofs.YtieiiabbeglmfaaGreatDoor Go.Proofs.YtieiiabbeglmfaaGreatDoor.S11 Go.Proofs.YtieiiabbeglmfaaGreatDoor.S12 Go.Proofs.YtieiiabbeglmfaaGreatDoor.S13 Go.Proofs.YtieiiabbeglmfaaGreatDoor.S14 Go.Proofs.YtieiiabbeglmfaaGreatDoor.S15 Go.Proofs.YtieiiabbeglmfaaGreatDoor.S16 Go.Proofs.YtieiiabbeglmfaaGreatDoor.S18
open Go.RowKit
structure Wn (M : Sd) (q : Nat → List S10.Ent) (ta : Nat → Int) (T k : Nat) : Prop where
  x : S2.look M.L 0 = 2
  a0 : ∀ key, S2.look M.L (lokN key 2) = 0
  len : (M.m 2).length = 4
  q : ∀ i, i < 4 → qAt M 2 i = q i
  tm : ∀ i, i < 4 → (M.m 2)[i]!.a = ta i
  T : M.T = T
  sp : M.sp = 0
  n : M.n ≤ k
  p : M.pn ≤ k
  nD : M.nD.length ≤ k
theorem bkt4 (key : Nat) : bktN key 2 < 4 := by
  have := bkt_lt key 2
  rw [bits2] at this
  omega
theorem Wn.pl {M : Sd} {q : Nat → List S10.Ent} {ta : Nat → Int} {T k : Nat} (h : Wn M q ta T k) (key : Nat) : Pl M key (lokN key 2) (bktN key 2) (q (bktN key 2)) :=
  ⟨h.x, rfl, h.a0 key, rfl, h.len, h.q _ (bkt4 key), h.sp⟩
theorem Wn.mono {M : Sd} {q : Nat → List S10.Ent} {ta : Nat → Int} {T k k' : Nat} (h : Wn M q ta T k) (hk : k ≤ k') : Wn M q ta T k' :=
  ⟨h.x, h.a0, h.len, h.q, h.tm, h.T, h.sp, Nat.le_trans h.n hk, Nat.le_trans h.p hk, Nat.le_trans h.nD hk⟩
def updQ (q : Nat → List S10.Ent) (i : Nat) (l : List S10.Ent) : Nat → List S10.Ent := fun j => if j = i then l else q j
theorem putq_q {M : Sd} {i : Nat} {D : List S10.Ent} (hl : (M.m 2).length = 4) (hi : i < 4) : ((M.putq ((2 : Nat) : Int) i D).m 2).length = 4 ∧ (∀ j, j < 4 → qAt (M.putq ((2 : Nat) : Int) i D) 2 j = if j = i then D else qAt M 2 j) ∧ (∀ j, j < 4 → ((M.putq ((2 : Nat) : Int) i D).m 2)[j]!.a = (M.m 2)[j]!.a) := by
  have e : (M.putq ((2 : Nat) : Int) i D).m 2 = (M.m 2).set i { (M.m 2)[i]! with q := D } := S10.upd_same M.m ((2 : Nat) : Int) _
  refine ⟨by rw [e, List.length_set]; exact hl, fun j hj => ?_, fun j hj => ?_⟩
  · unfold qAt
    rw [e, getElem!_pos _ j (by rw [List.length_set, hl]; exact hj), List.getElem_set]
    by_cases h : i = j
    · rw [if_pos h, if_pos h.symm]
    · rw [if_neg h, if_neg (fun e => h e.symm), getElem!_pos _ j (by rw [hl]; exact hj)]
  · rw [e, getElem!_pos _ j (by rw [List.length_set, hl]; exact hj), List.getElem_set]
    by_cases h : i = j
    · subst h
      rw [if_pos rfl]
    · rw [if_neg h, getElem!_pos _ j (by rw [hl]; exact hj)]
theorem fireM_L (M : Sd) (pb : Int) (pi : Nat) : (fireM M pb pi).L = M.L ∧ (fireM M pb pi).T = M.T ∧ (fireM M pb pi).nD = M.nD ∧ (fireM M pb pi).pf = M.pf ∧ (fireM M pb pi).tk = M.tk := by
  unfold fireM
  split <;> exact ⟨rfl, rfl, rfl, rfl, rfl⟩
theorem takeM_L (M : Sd) (t : Nat) (pb : Int) (pi ky : Nat) : (takeM M t pb pi ky).L = M.L ∧ (takeM M t pb pi ky).T = M.T ∧ (takeM M t pb pi ky).pf = M.pf ∧ (takeM M t pb pi ky).tk = M.tk := by
  unfold takeM
  split
  · have h := fireM_L (takeN M t pb pi ky) pb pi
    exact ⟨h.1.trans rfl, h.2.1.trans rfl, h.2.2.2.1.trans rfl, h.2.2.2.2.trans rfl⟩
  · exact ⟨rfl, rfl, rfl, rfl⟩
theorem addD_len (D : List Nt) (x : Nt) : (addD D x).length ≤ D.length + 1 := by
  unfold addD
  split
  · omega
  · simp
section
variable {M : Sd} {D : Od} {a pi : Nat} {Q : List S10.Ent}
theorem orun_at (h : Pl M D.k a pi Q) (hk : D.k < 4294967296) {i : Nat} (hi : i < 3) (h0 : (enE (oitn (M, on0 D) i).1 (oitn (M, on0 D) i).2.E).ln = 0) :
    enM (oitn (M, on0 D) i).1 (oitn (M, on0 D) i).2.E = mE M a 2 ∧ (enE (oitn (M, on0 D) i).1 (oitn (M, on0 D) i).2.E).tw = 2 ∧ i = 2 := by
  have ek : D.k % 4294967296 = D.k := Nat.mod_eq_of_lt hk
  obtain ⟨g1, g2, g3, g4, g5, g6⟩ := en3 (t := D.t) (key := D.k) h.x (by rw [ek]; exact h.ae) h.a0
  have gx := en3x (t := D.t) (key := D.k) h.x (by rw [ek]; exact h.ae) h.a0
  have hw := ((orun_in h hk).1 i hi).2
  have h2 : i = 2 := by
    by_cases h2 : i = 2
    · exact h2
    · exfalso
      rw [hw] at h0
      exact g1 (i + 1) (by omega) h0
  subst h2
  rw [hw]
  exact ⟨gx, g4, rfl⟩
theorem orun_no (h : Pl M D.k a pi Q) (hk : D.k < 4294967296) (hb : oneB M D a pi = false) :
    (∀ i, i < 3 → (oitn (M, on0 D) i).2.ln = 1) ∧ (oitn (M, on0 D) 3).2.ln = 4 ∧ ∃ P4, oitn (M, on0 D) 4 = ((oneM M D a pi).acc 5 a 0, P4) ∧ P4.ln = 0 ∧ P4.R = oneR M D a pi ∧ P4.told = true := by
  have ha := h.ain
  obtain ⟨g1, E3, g2⟩ := orun_in h hk
  rw [hb] at g2
  have g2' : oitn (M, on0 D) 3 = (oneM M D a pi, ⟨4, D, true, oneR M D a pi, E3, fr0 a⟩) := g2
  have l1 : S2.look (oneM M D a pi).L a = 1 := by
    unfold oneM
    rw [(takeM_L _ _ _ _ _).1, mE_look h.x ha, if_pos rfl]
  obtain ⟨f1, f2⟩ := fr1 (M := oneM M D a pi) (a := a) (by omega) l1
  have f1' : (fstepK (oneM M D a pi) (fr0 a)).ln = 0 := f1
  have f2' : fstepM (oneM M D a pi) (fr0 a) = (oneM M D a pi).acc 5 a 0 := f2
  refine ⟨fun i hi => (g1 i hi).1, by rw [g2'], ⟨0, D, true, oneR M D a pi, E3, fstepK (oneM M D a pi) (fr0 a)⟩, ?_, rfl, rfl, rfl⟩
  show oit (oitn (M, on0 D) 3) = _
  rw [g2']
  show (fstepM (oneM M D a pi) (fr0 a), if (fstepK (oneM M D a pi) (fr0 a)).ln = 0 then (⟨0, D, true, oneR M D a pi, E3, fstepK (oneM M D a pi) (fr0 a)⟩ : On) else _) = _
  rw [if_pos f1', f2']
def oneU (M : Sd) (D : Od) (a pi : Nat) : Sd := (((oneM M D a pi).unpark (2 * (oneR M D a pi).th.toNat)).tok (oneR M D a pi).th.toNat D.z).acc 5 a 0
theorem orun_yes (h : Pl M D.k a pi Q) (hk : D.k < 4294967296) (hb : oneB M D a pi = true) :
    (∀ i, i < 3 → (oitn (M, on0 D) i).2.ln = 1) ∧ ((oitn (M, on0 D) 3).2.ln = 3 ∧ (oitn (M, on0 D) 3).2.R = oneR M D a pi) ∧ (oitn (M, on0 D) 4).2.ln = 4 ∧ ∃ P5, oitn (M, on0 D) 5 = (oneU M D a pi, P5) ∧ P5.ln = 0 ∧ P5.R = oneR M D a pi ∧ P5.told = true := by
  have ha := h.ain
  obtain ⟨g1, E3, g2⟩ := orun_in h hk
  rw [hb] at g2
  have g2' : oitn (M, on0 D) 3 = (oneM M D a pi, ⟨3, D, true, oneR M D a pi, E3, fr0 a⟩) := g2
  obtain ⟨M4, hM4⟩ : ∃ M4, M4 = ((oneM M D a pi).unpark (2 * (oneR M D a pi).th.toNat)).tok (oneR M D a pi).th.toNat D.z := ⟨_, rfl⟩
  have g4 : oitn (M, on0 D) 4 = (M4, ⟨4, D, true, oneR M D a pi, E3, fr0 a⟩) := by
    show oit (oitn (M, on0 D) 3) = _
    rw [g2', hM4]; rfl
  have l1 : S2.look M4.L a = 1 := by
    rw [hM4]
    show S2.look (oneM M D a pi).L a = 1
    unfold oneM
    rw [(takeM_L _ _ _ _ _).1, mE_look h.x ha, if_pos rfl]
  obtain ⟨f1, f2⟩ := fr1 (M := M4) (a := a) (by omega) l1
  have f1' : (fstepK M4 (fr0 a)).ln = 0 := f1
  have f2' : fstepM M4 (fr0 a) = M4.acc 5 a 0 := f2
  refine ⟨fun i hi => (g1 i hi).1, by rw [g2']; exact ⟨rfl, rfl⟩, by rw [g4], ⟨0, D, true, oneR M D a pi, E3, fstepK M4 (fr0 a)⟩, ?_, rfl, rfl, rfl⟩
  show oit (oitn (M, on0 D) 4) = _
  rw [g4]
  show (fstepM M4 (fr0 a), if (fstepK M4 (fr0 a)).ln = 0 then (⟨0, D, true, oneR M D a pi, E3, fstepK M4 (fr0 a)⟩ : On) else _) = _
  rw [if_pos f1', f2']
  unfold oneU
  rw [← hM4]
end
section
variable {M : Sd} {q : Nat → List S10.Ent} {ta : Nat → Int} {T k : Nat} {D : Od}
theorem no_e {a pi : Nat} (hb : oneB M D a pi = false) : oneM M D a pi = mE M a 2 := by
  unfold oneM takeM
  unfold oneB at hb
  rw [hb]; exact if_neg (by decide)
theorem no_l {a : Nat} (hx : S2.look M.L 0 = 2) (ha : 256 ≤ a ∧ a < 1024) (h0 : S2.look M.L a = 0) : ∀ b, S2.look ((mE M a 2).acc 5 a 0).L b = S2.look M.L b := fun b => by
  by_cases hb : b = a
  · rw [hb, h0]; exact acc_same (by omega)
  · rw [acc_other hb, mE_look hx ha, if_neg hb]
theorem no_m {a pi : Nat} (h : Wn M q ta T k) (e : oneM M D a pi = mE M a 2) (hl : ∀ b, S2.look ((mE M a 2).acc 5 a 0).L b = S2.look M.L b) : Wn ((oneM M D a pi).acc 5 a 0) q ta T (k + 10) := by
  rw [e]
  refine ⟨by rw [hl]; exact h.x, fun key => by rw [hl]; exact h.a0 key, h.len, h.q, h.tm, h.T, h.sp, ?_, ?_, ?_⟩
  · show M.n + 1 + 1 + 1 + 1 ≤ _; have := h.n; omega
  · show M.pn ≤ _; have := h.p; omega
  · show M.nD.length ≤ _; have := h.nD; omega
theorem Wn.no (h : Wn M q ta T k) (hk : D.k < 4294967296) (hb : oneB M D (lokN D.k 2) (bktN D.k 2) = false) : Wn ((oneM M D (lokN D.k 2) (bktN D.k 2)).acc 5 (lokN D.k 2) 0) q ta T (k + 10) := no_m h (no_e hb) (no_l h.x (h.pl D.k).ain (h.a0 D.k))
theorem Wn.yes (h : Wn M q ta T k) (hk : D.k < 4294967296) (hb : oneB M D (lokN D.k 2) (bktN D.k 2) = true) (hf : ¬ ta (bktN D.k 2) < (T : Int)) :
    Wn (oneU M D (lokN D.k 2) (bktN D.k 2)) (updQ q (bktN D.k 2) (S10.cutL (q (bktN D.k 2)) (S10.idx (S10.byKey (D.k : Int)) (q (bktN D.k 2))))) ta T (k + 10)
    ∧ oneR M D (lokN D.k 2) (bktN D.k 2) = ⟨1, decide (0 ≤ S10.idx (S10.byKey (D.k : Int)) (S10.cutL (q (bktN D.k 2)) (S10.idx (S10.byKey (D.k : Int)) (q (bktN D.k 2))))), false, (S10.cutE (q (bktN D.k 2)) (S10.idx (S10.byKey (D.k : Int)) (q (bktN D.k 2)))).t⟩ := by
  have hp := h.pl D.k
  have ha := hp.ain
  have h4 := bkt4 D.k
  obtain ⟨pi, hpi⟩ : ∃ pi, pi = bktN D.k 2 := ⟨_, rfl⟩
  obtain ⟨a, haa⟩ : ∃ a, a = lokN D.k 2 := ⟨_, rfl⟩
  rw [← hpi] at hb hf h4 hp ⊢
  rw [← haa] at hb ha hp ⊢
  have hq : qAt (mE M a 2) ((2 : Nat) : Int) pi = q pi := h.q pi h4
  have eI : takeI (mE M a 2) ((2 : Nat) : Int) pi D.k = S10.idx (S10.byKey (D.k : Int)) (q pi) := by unfold takeI; rw [hq]
  have eL : takeL (mE M a 2) ((2 : Nat) : Int) pi D.k = S10.cutL (q pi) (S10.idx (S10.byKey (D.k : Int)) (q pi)) := by unfold takeL; rw [eI, hq]
  have eW : takeW (mE M a 2) ((2 : Nat) : Int) pi D.k = (S10.cutE (q pi) (S10.idx (S10.byKey (D.k : Int)) (q pi))).t := by unfold takeW; rw [eI, hq]
  have hb' : takeB (mE M a 2) ((2 : Nat) : Int) pi D.k = true := hb
  obtain ⟨lf, hlf⟩ : ∃ lf, lf = S10.cutL (q pi) (S10.idx (S10.byKey (D.k : Int)) (q pi)) := ⟨_, rfl⟩
  obtain ⟨th, hth⟩ : ∃ th, th = (S10.cutE (q pi) (S10.idx (S10.byKey (D.k : Int)) (q pi))).t := ⟨_, rfl⟩
  rw [← hlf] at eL ⊢
  rw [← hth] at eW ⊢
  obtain ⟨Nn, hN⟩ : ∃ Nn, Nn = takeN (mE M a 2) D.t ((2 : Nat) : Int) pi D.k := ⟨_, rfl⟩
  have pq := putq_q (M := mE M a 2) (i := pi) (D := lf) h.len h4
  have hNm : Nn.m = ((mE M a 2).putq ((2 : Nat) : Int) pi lf).m := by rw [hN]; unfold takeN; rw [eL]; rfl
  have hNT : Nn.T = M.T := by rw [hN]; rfl
  have hNL : Nn.L = (mE M a 2).L := by rw [hN]; rfl
  have hfb : fireB Nn ((2 : Nat) : Int) pi = false := by
    unfold fireB
    rw [hNm, hNT, h.T]
    exact decide_eq_false (by have := pq.2.2 pi h4; have := h.tm pi h4; show ¬ ((((mE M a 2).putq ((2 : Nat) : Int) pi lf).m 2)[pi]!.a < (T : Int)); rw [pq.2.2 pi h4]; show ¬ ((M.m 2)[pi]!.a < (T : Int)); rw [h.tm pi h4]; exact hf)
  have hM : oneM M D a pi = Nn := by
    unfold oneM takeM
    rw [if_pos hb', ← hN]
    unfold fireM
    rw [hfb]; exact if_neg (by decide)
  have hR : oneR M D a pi = ⟨1, decide (0 ≤ S10.idx (S10.byKey (D.k : Int)) lf), false, th⟩ := by
    unfold oneR takeR
    rw [if_pos hb', eL, eW, ← hN, hfb]
  refine ⟨?_, hR⟩
  have hl : ∀ b, S2.look (oneU M D a pi).L b = S2.look M.L b := fun b => by
    unfold oneU
    rw [hM, hR]
    by_cases hb : b = a
    · rw [hb, haa, h.a0]; rw [← haa]; exact acc_same (by omega)
    · rw [acc_other hb]
      show S2.look Nn.L b = _
      rw [hNL, mE_look h.x ha, if_neg hb]
  have hm : (oneU M D a pi).m = ((mE M a 2).putq ((2 : Nat) : Int) pi lf).m := by
    unfold oneU; rw [hM, ← hNm]; rfl
  have hqa : ∀ i, qAt (oneU M D a pi) 2 i = qAt ((mE M a 2).putq ((2 : Nat) : Int) pi lf) 2 i := fun i => by unfold qAt; rw [hm]
  refine ⟨by rw [hl]; exact h.x, fun key => by rw [hl]; exact h.a0 key, by rw [hm]; exact pq.1, fun i hi => ?_, fun i hi => ?_, ?_, ?_, ?_, ?_, ?_⟩
  · rw [hqa, pq.2.1 i hi]
    unfold updQ
    split
    · rfl
    · exact h.q i hi
  · rw [hm, pq.2.2 i hi]; exact h.tm i hi
  · unfold oneU; rw [hM]; exact hNT.trans h.T
  · unfold oneU; rw [hM]; show Nn.sp = 0; rw [hN]; exact h.sp
  · unfold oneU; rw [hM]; show Nn.n + 1 ≤ _; rw [hN]; show M.n + 1 + 1 + 1 + 1 ≤ _; have := h.n; omega
  · unfold oneU; rw [hM]; show Nn.pn + 1 ≤ _; rw [hN]; show M.pn + 1 ≤ _; have := h.p; omega
  · unfold oneU; rw [hM]; show Nn.nD.length ≤ _; rw [hN]; have := addD_len M.nD ⟨(((mE M a 2).n + (mE M a 2).pn : Nat) : Int), (D.t : Int), 2, (D.k : Int), takeW (mE M a 2) ((2 : Nat) : Int) pi D.k, 0, 0⟩; have h2 := h.nD; show (addD M.nD _).length ≤ _; omega
theorem oneU_pf (M : Sd) (D : Od) (a pi : Nat) : (oneU M D a pi).pf = S4.updP M.pf (2 * (oneR M D a pi).th.toNat) { M.pf (2 * (oneR M D a pi).th.toNat) with p := true } ∧ (oneU M D a pi).tk = updT M.tk (oneR M D a pi).th.toNat D.z := by
  have h := takeM_L (mE M a 2) D.t ((2 : Nat) : Int) pi D.k
  have h1 : (oneM M D a pi).pf = M.pf := h.2.2.1
  have h2 : (oneM M D a pi).tk = M.tk := h.2.2.2
  refine ⟨?_, ?_⟩
  · show S4.updP (oneM M D a pi).pf (2 * (oneR M D a pi).th.toNat) { (oneM M D a pi).pf (2 * (oneR M D a pi).th.toNat) with p := true } = _
    rw [h1]
  · show updT (oneM M D a pi).tk _ _ = _
    rw [h2]
end
end Go.Proofs.YtieiiabbeglmfaaGreatDoor.S19
set_option linter.unusedVariables false
set_option linter.unusedSimpArgs false
namespace Go.Proofs.YtieiiabbeglmfaaGreatDoor.S19
set_option maxRecDepth 100000
set_option maxHeartbeats 16000000
open Go.Proofs.YtieiiabbeglmfaaGreatDoor Go.Proofs.YtieiiabbeglmfaaGreatDoor.S11 Go.Proofs.YtieiiabbeglmfaaGreatDoor.S12 Go.Proofs.YtieiiabbeglmfaaGreatDoor.S13 Go.Proofs.YtieiiabbeglmfaaGreatDoor.S14 Go.Proofs.YtieiiabbeglmfaaGreatDoor.S15 Go.Proofs.YtieiiabbeglmfaaGreatDoor.S16 Go.Proofs.YtieiiabbeglmfaaGreatDoor.S18
open Go.RowKit
theorem inI2b : S10.InI ((2 : Nat) : Int) := by unfold S10.InI; omega
section
variable {w0 w w' : World} {base WB : Nat} {M : Sd} {q : Nat → List S10.Ent} {ta : Nat → Int} {T k : Nat} {H : List Part} {L : List Rows} {B : Nat} {X : Wm}
theorem sleep_s {D : Pd} (hT : Tab w0) (hb : 0 < base) (wn : Wn M q ta T k) (hk : k ≤ 50000) (hq : ∀ i, (q i).length ≤ 100) (ht : D.t < 64) (hkey : D.k < 4294967296) (hh : D.hk = none) (hon : D.on = false)
    (h : PaR w0 w base WB M (rs H (L ++ [[]])) (2 + H.length + L.length) 0 1 (pa0 D) B) :
    Calls Tryz.prog 12 #[Pw WB, Pw B, .int .i64 (D.t : Int)] w fun e' w' => e' = .returned (.bool true) ∧ ∃ M' l E F, AllS w0 w' base WB M' H (L ++ [l]) ∧ Slp l ⟨8, D, 2, bktN D.k 2, E, F, 0, 0⟩ B ∧ Wn M' (updQ q (bktN D.k 2) (q (bktN D.k 2) ++ [entD D])) ta T (k + 10) ∧ (M'.pf (2 * D.t)).p = false ∧ (∀ j, j ≠ 2 * D.t → M'.pf j = M.pf j) ∧ M'.tk = M.tk ∧ M'.pf (2 * D.t) = ⟨false, true, false, 0⟩ ∧ (∀ b : Int, b ≠ 2 → M'.m b = M.m b) ∧ M'.D = M.D ∧ M'.most = M.most := by
  obtain ⟨pi, hpi⟩ : ∃ pi, pi = bktN D.k 2 := ⟨_, rfl⟩
  obtain ⟨a, haa⟩ : ∃ a, a = lokN D.k 2 := ⟨_, rfl⟩
  have hp := wn.pl D.k
  have h4 := bkt4 D.k
  rw [← hpi, ← haa] at hp
  rw [← hpi] at h4 ⊢
  have ha := hp.ain
  obtain ⟨g1, g2, E6, F6, g6⟩ := pk_run (D := D) hp ht hkey hh
  have hr := @pkM_rest M D a pi
  have hp0 : ((pkM M D a pi).pf (2 * D.t)).p = false := by rw [hr.2.1]; unfold S4.updP; rw [if_pos rfl]; rfl
  have hg : slpG (pkM M D a pi) D = 0 := by
    unfold slpG
    rw [hon, if_neg (by decide), hp0, if_neg (by decide)]
  have e7 : pitn (M, pa0 D) 7 = ((pkM M D a pi).park (2 * D.t), (⟨8, D, 2, pi, E6, F6, 0, 0⟩ : Pa)) := by
    show pit (pitn (M, pa0 D) 6) = _
    rw [g6]
    show ((if D.on then (pkM M D a pi).until (2 * D.t) D.at' else (pkM M D a pi).park (2 * D.t)), (if slpG (pkM M D a pi) D = 0 then (⟨8, D, 2, pi, E6, F6, 0, 0⟩ : Pa) else if slpG (pkM M D a pi) D = 2 then ⟨9, D, 2, pi, ow0 D.t, F6, 0, 0⟩ else ⟨0, D, 2, pi, E6, F6, 0, 2⟩)) = _
    rw [if_pos hg, hon, if_neg (by decide)]
  have hpf : ((pkM M D a pi).park (2 * D.t)).pf = S4.updP (pkM M D a pi).pf (2 * D.t) (S4.parkK ((pkM M D a pi).pf (2 * D.t))) := rfl
  have b6 := pitn_n (M, pa0 D) 7
  rw [e7] at b6
  have hroom : ∀ i, i ≤ 6 → Room w0 base (pitn (M, pa0 D) i).1 (pitn (M, pa0 D) i).2 := fun i hi => by
    refine room_of (n := 6) (c := 0) (pi := 0) hT hb hp.sp (by have := wn.n; omega) (by have := wn.p; omega) hi (fun hl => ?_)
    by_cases h6 : i < 6
    · obtain ⟨e1, e2, e3, e4⟩ := g2 i h6 hl
      refine ⟨e1, by rw [e2, e3, hp.len]; exact h4, ?_, by rw [e4]; have := wn.nD; omega⟩
      rw [e2]
      unfold qAt
      rw [e3]
      have := hp.q
      unfold qAt at this
      rw [this]
      have := hq pi
      omega
    · obtain rfl : i = 6 := by omega
      rw [g6] at hl
      exact absurd hl (by show ¬ (8 = 5 ∨ 8 = 10); omega)
  refine (asleep_ (t := D.t) (n := 6) h ht (by omega) (fun i hi => by have := g1 i hi; omega) hroom (by rw [g6]) (by rw [e7]) ?_).mono ?_
  · rw [e7, hpf]
    unfold S4.updP S4.parkK
    rw [if_pos rfl, hp0, if_neg (by decide)]
  · rintro e' w' ⟨rfl, h'⟩
    rw [e7] at h'
    obtain ⟨l, hs, hsl⟩ := AllS.rest h' (.inl rfl)
    rw [set_last] at hs
    have hm := pkM_m (D := D) hp
    have hqm : ∀ i, i < 4 → qAt (pkM M D a pi) 2 i = updQ q pi (q pi ++ [entD D]) i ∧ ((pkM M D a pi).m 2)[i]!.a = ta i := fun i hi => by
      have pq := putq_q (M := M) (i := pi) (D := qAt M ((2 : Nat) : Int) pi ++ [entD D]) wn.len h4
      have e1 : (pkM M D a pi).m = (M.putq ((2 : Nat) : Int) pi (qAt M ((2 : Nat) : Int) pi ++ [entD D])).m := rfl
      refine ⟨?_, ?_⟩
      · have e2 : qAt (pkM M D a pi) 2 i = qAt (M.putq ((2 : Nat) : Int) pi (qAt M ((2 : Nat) : Int) pi ++ [entD D])) 2 i := by
          show ((pkM M D a pi).m 2)[i]!.q = ((M.putq ((2 : Nat) : Int) pi (qAt M ((2 : Nat) : Int) pi ++ [entD D])).m 2)[i]!.q
          rw [e1]
        rw [e2, pq.2.1 i hi]
        unfold updQ
        split
        · rw [show qAt M ((2 : Nat) : Int) pi = q pi from wn.q pi h4]
        · exact wn.q i hi
      · rw [e1, pq.2.2 i hi]; exact wn.tm i hi
    have hlk := fun b => pkM_look (D := D) hp ht b
    refine ⟨rfl, (pkM M D a pi).park (2 * D.t), l, E6, F6, hs, hsl, ⟨?_, fun key => ?_, hm.1, fun i hi => (hqm i hi).1, fun i hi => (hqm i hi).2, hr.1.trans wn.T, ?_, ?_, ?_, ?_⟩, ?_, fun j hj => ?_, ?_⟩
    · have := hlk 0
      rw [if_neg (by omega)] at this
      exact this.trans wn.x
    · have hl := lok_in key 2
      have := hlk (lokN key 2)
      rw [if_neg (by omega)] at this
      exact this.trans (wn.a0 key)
    · exact b6.2.2.trans wn.sp
    · have h1 : ((pkM M D a pi).park (2 * D.t)).n ≤ M.n + 7 := b6.1
      have := wn.n; omega
    · have h1 : ((pkM M D a pi).park (2 * D.t)).pn ≤ M.pn + 7 := b6.2.1
      have := wn.p; omega
    · have h1 : ((pkM M D a pi).park (2 * D.t)).nD.length ≤ M.nD.length + 1 := hr.2.2
      have := wn.nD; omega
    · exact park_p hp0
    · rw [park_ne hj, hr.2.1]
      unfold S4.updP
      rw [if_neg hj]
    · refine ⟨rfl, ?_, fun b hb2 => ?_, rfl, rfl⟩
      · rw [hpf]
        unfold S4.updP S4.parkK
        rw [if_pos rfl, hp0, if_neg (by decide)]
      · have e1 : ((pkM M D a pi).park (2 * D.t)).m = (M.putq ((2 : Nat) : Int) pi (qAt M ((2 : Nat) : Int) pi ++ [entD D])).m := rfl
        rw [e1]
        exact S10.upd_ne _ _ hb2
theorem room8 {D : Pd} {pi : Nat} {E : En} {F : Fr} (hT : Tab w0) (hb : 0 < base) (wn : Wn M q ta T k) (hk : k ≤ 50000) : Room w0 base M ⟨8, D, 2, pi, E, F, 0, 0⟩ := by
  have := wn.sp; have := wn.n; have := wn.p
  exact ⟨by omega, by omega, by omega, fun hl => absurd hl (by show ¬ (8 = 5 ∨ 8 = 10); omega)⟩
theorem wake_s {D : Pd} {pi i : Nat} {E : En} {F : Fr} {l : Rows} (hT : Tab w0) (hb : 0 < base) (wn : Wn M q ta T k) (hk : k ≤ 50000) (h : AllS w0 w base WB M H L) (hi : L[i]? = some l) (s : Slp l ⟨8, D, 2, pi, E, F, 0, 0⟩ B) (hon : D.on = false) (hp : (M.pf (2 * D.t)).p = true) :
    Calls Tryz.prog 31 #[Pw B, Pw WB] w fun e' w' => e' = .returned (.bool true) ∧ ∃ l', AllS w0 w' base WB (M.park (2 * D.t)) H (L.set i l') ∧ Slp l' ⟨0, D, 2, pi, E, F, 0, 2⟩ B := by
  have hg : slpG M D = 1 := by
    unfold slpG
    rw [hon, if_neg (by decide), hp, if_pos rfl]
  have hM : paM M ⟨8, D, 2, pi, E, F, 0, 0⟩ = M.park (2 * D.t) := by
    show (if D.on then M.until (2 * D.t) D.at' else M.park (2 * D.t)) = _
    rw [hon, if_neg (by decide)]
  have hE : paE M ⟨8, D, 2, pi, E, F, 0, 0⟩ = ⟨0, D, 2, pi, E, F, 0, 2⟩ := (if_neg (by rw [hg]; omega)).trans (if_neg (by rw [hg]; omega))
  refine ((h.park hi s).step (room8 hT hb wn hk)).mono ?_
  rintro e' w' ⟨rfl, h'⟩
  rw [hM, hE] at h'
  obtain ⟨l', hs, hsl⟩ := AllS.rest h' (.inr rfl)
  exact ⟨by rw [hE]; rfl, l', hs, hsl⟩
theorem Wn.park (wn : Wn M q ta T k) (i : Nat) : Wn (M.park i) q ta T (k + 10) :=
  ⟨wn.x, wn.a0, wn.len, wn.q, wn.tm, wn.T, wn.sp, by show M.n ≤ _; have := wn.n; omega, by show M.pn + 1 ≤ _; have := wn.p; omega, by show M.nD.length ≤ _; have := wn.nD; omega⟩
theorem got_2 {t : Nat} {z : Int} (c10 : w.cell? ⟨B, 10, none⟩ = some (.int .u8 2)) (c0 : w.cell? ⟨B, 0, none⟩ = some (.int .i64 (t : Int))) (ct : w.cell? ⟨WB, 7 + t, none⟩ = some (.int .u64 z)) (ht : t < 64) : Calls Tryz.prog 17 #[Pw B, Pw WB] w fun e w' => e = .returned (.tuple #[.int .u8 2, .int .u64 z]) ∧ Below w.heap.size w w' := by
  have e1 : decide ((t : Int) < 64) = true := decide_eq_true (by omega)
  have e2 : decide (t < 64) = true := decide_eq_true ht
  have e3 : (t : Int) < 64 := by omega
  go_enter Tryz.func17, Tryz.ntmps17
  go_wp2_with fail
  go_quiet (fail)
  go_wp2_with fail
  go_ret2
  exact ⟨rfl, below_n _ _⟩
theorem got_s {D : Pd} {pi i : Nat} {E : En} {F : Fr} {l : Rows} (h : AllS w0 w base WB M H L) (hi : L[i]? = some l) (s : Slp l ⟨0, D, 2, pi, E, F, 0, 2⟩ B) (ht : D.t < 64) :
    Calls Tryz.prog 17 #[Pw B, Pw WB] w fun e w' => e = .returned (.tuple #[.int .u8 2, .int .u64 ((M.tk D.t : Nat) : Int)]) ∧ Below w.heap.size w w' := by
  have hl : l = [(B, pkO D ((2 : Nat) : Int) (pi : Int) .nilIface .nilFunc 2)] := s.sh [] 0 0
  have hb : w.heap[B]? = some (pkO D ((2 : Nat) : Int) (pi : Int) .nilIface .nilFunc 2) := h.blk (by rw [hi, hl])
  obtain ⟨r, X, hp⟩ := h.pg
  exact got_2 (cell_row hb 10) (cell_row hb 0) (tok_at hp ht) ht
end
section
variable {w0 w w' : World} {base WB : Nat} {M : Sd} {q : Nat → List S10.Ent} {ta : Nat → Int} {T k : Nat} {r : List Part} {j e u B : Nat} {D : Od}
theorem oroom_e {N M : Sd} {a tw k k' : Nat} (e1 : N = mE M a 2) (e2 : tw = 2) (e3 : k' = k) (hl : (M.m 2).length = 4) (h4 : bktN k 2 < 4) (hq : (qAt M 2 (bktN k 2)).length ≤ 100) (hn : M.n ≤ 50000) (hpn : M.pn ≤ 50000) (hnd : M.nD.length ≤ 50000) :
    S10.InI (bitsN tw : Int) ∧ bktN k' tw < (N.m (bitsN tw : Int)).length ∧ (qAt N (bitsN tw : Int) (bktN k' tw)).length ≤ 900 ∧ N.nD.length ≤ 90000 ∧ N.n ≤ 900000000 ∧ N.pn ≤ 900000000 := by
  subst e1 e2 e3
  rw [bits2]
  generalize bktN k' 2 = pi at *
  refine ⟨inI2b, ?_, ?_, ?_, ?_, ?_⟩
  · show pi < (M.m 2).length; omega
  · show (qAt M 2 pi).length ≤ 900; omega
  · show M.nD.length ≤ _; omega
  · show M.n + 1 + 1 + 1 ≤ _; omega
  · show M.pn ≤ _; omega
theorem oroom {i : Nat} (hT : Tab w0) (hb : 0 < base) (wn : Wn M q ta T k) (hk : k ≤ 50000) (hq : ∀ i, (q i).length ≤ 100) (hkey : D.k < 4294967296) (hi : i < 5)
    (h1 : (oitn (M, on0 D) i).2.ln = 1 → i < 3) (h3 : (oitn (M, on0 D) i).2.ln = 3 → 0 ≤ (oitn (M, on0 D) i).2.R.th ∧ (oitn (M, on0 D) i).2.R.th < 64) : ORoom w0 base WB (oitn (M, on0 D) i).1 (oitn (M, on0 D) i).2 := by
  have b := oitn_n (M, on0 D) i
  have hsp := wn.sp; have hn := wn.n; have hpn := wn.p; have hnd := wn.nD
  have b1 : (oitn (M, on0 D) i).1.n ≤ M.n + i := b.1
  have b2 : (oitn (M, on0 D) i).1.pn ≤ M.pn + i := b.2.1
  have b3 : (oitn (M, on0 D) i).1.sp = M.sp := b.2.2
  refine ⟨by omega, by omega, by omega, hT, hb, fun hl h0 => ?_, h3⟩
  obtain ⟨e1, e2, e3⟩ := orun_at (wn.pl D.k) hkey (h1 hl) h0
  have eD : (oitn (M, on0 D) i).2.D.k = D.k := by rw [((orun_in (wn.pl D.k) hkey).1 i (h1 hl)).2]; rfl
  have hql : (qAt M 2 (bktN D.k 2)).length ≤ 100 := by rw [wn.q _ (bkt4 D.k)]; exact hq _
  exact oroom_e e1 e2 eD wn.len (bkt4 D.k) hql (Nat.le_trans hn hk) (Nat.le_trans hpn hk) (Nat.le_trans hnd hk)
theorem fireM_m (M : Sd) {pb b : Int} (pi : Nat) (h : b ≠ pb) : (fireM M pb pi).m b = M.m b := by
  unfold fireM
  split
  · exact S10.upd_ne _ _ h
  · rfl
theorem oneM_m (M : Sd) (D : Od) (a pi : Nat) {b : Int} (h : b ≠ 2) : (oneM M D a pi).m b = M.m b := by
  unfold oneM takeM
  split
  · exact (fireM_m _ _ h).trans (S10.upd_ne _ _ h)
  · rfl
theorem oneU_m (M : Sd) (D : Od) (a pi : Nat) {b : Int} (h : b ≠ 2) : (oneU M D a pi).m b = M.m b := oneM_m M D a pi h
theorem fire_pre {M : Sd} {t ky a pi : Nat} (hl : (M.m 2).length = 4) (h4 : pi < 4) : ((takeN (mE M a 2) t ((2 : Nat) : Int) pi ky).m ((2 : Nat) : Int))[pi]!.a = (M.m 2)[pi]!.a ∧ ((takeN (mE M a 2) t ((2 : Nat) : Int) pi ky).m ((2 : Nat) : Int)).length = 4 ∧ (takeN (mE M a 2) t ((2 : Nat) : Int) pi ky).T = M.T := by
  have pq := putq_q (M := mE M a 2) (i := pi) (D := takeL (mE M a 2) ((2 : Nat) : Int) pi ky) hl h4
  exact ⟨pq.2.2 pi h4, pq.1, rfl⟩
theorem fires_no {i : Nat} (wn : Wn M q ta T k) (hkey : D.k < 4294967296) (hf : ¬ ta (bktN D.k 2) < (T : Int)) (h1 : (oitn (M, on0 D) i).2.ln = 1 → i < 3) : (oitn (M, on0 D) i).2.ln = 1 → (enE (oitn (M, on0 D) i).1 (oitn (M, on0 D) i).2.E).ln = 0 → Fires w0 base WB (oitn (M, on0 D) i).1 j (oitn (M, on0 D) i).2 := by
  intro hl h0
  have h4 := bkt4 D.k
  obtain ⟨e1, e2, e3⟩ := orun_at (wn.pl D.k) hkey (h1 hl) h0
  have eD : (oitn (M, on0 D) i).2.D = D := by rw [((orun_in (wn.pl D.k) hkey).1 i (h1 hl)).2]; rfl
  have hp := fire_pre (M := M) (t := D.t) (ky := D.k) (a := lokN D.k 2) wn.len h4
  have htm := wn.tm _ h4
  unfold Fires
  rw [e1, e2, eD, bits2]
  intro W rr ll X' hb hW
  clear hb e1 e2 e3 eD h0 hl h1 hkey
  generalize lokN D.k 2 = a at *
  generalize bktN D.k 2 = pi at *
  obtain ⟨Nn, hN⟩ : ∃ Nn, Nn = takeN (mE M a 2) D.t ((2 : Nat) : Int) pi D.k := ⟨_, rfl⟩
  rw [← hN] at hp hW ⊢
  clear hN
  have hd : ¬ (Nn.m ((2 : Nat) : Int))[pi]!.a < (Nn.T : Int) := by rw [hp.1, hp.2.2, wn.T, htm]; exact hf
  have hfb : fireB Nn ((2 : Nat) : Int) pi = false := decide_eq_false hd
  have hfm : fireM Nn ((2 : Nat) : Int) pi = Nn := by unfold fireM; rw [hfb]; exact if_neg (by decide)
  rw [hfb, hfm]
  refine (fire_no hW.pg inI2b (ni := pi) (by rw [hp.2.1]; exact h4) hd).mono ?_
  rintro e w' ⟨rfl, h'⟩
  exact ⟨rfl, X', hW.pgq h'⟩
theorem one_noF {most : Nat} (hT : Tab w0) (hb : 0 < base) (wn : Wn M q ta T k) (hk : k ≤ 50000) (hq : ∀ i, (q i).length ≤ 100) (hkey : D.k < 4294967296) (hfi : ∀ i, ((oitn (M, on0 D) i).2.ln = 1 → i < 3) → (oitn (M, on0 D) i).2.ln = 1 → (enE (oitn (M, on0 D) i).1 (oitn (M, on0 D) i).2.E).ln = 0 → Fires w0 base WB (oitn (M, on0 D) i).1 j (oitn (M, on0 D) i).2) (hB : oneB M D (lokN D.k 2) (bktN D.k 2) = false) (hm : 5 ≤ most ∧ most ≤ 100)
    (h : OnR w0 w base WB M r j e u (on0 D) B) :
    Calls Tryz.prog 16 #[Pw WB, .iface 76 (Pw B), .int .i64 (most : Int)] w fun e' w' => e' = .returned (.int .i64 4) ∧ ∃ P', OnR w0 w' base WB ((oneM M D (lokN D.k 2) (bktN D.k 2)).acc 5 (lokN D.k 2) 0) r j e u P' B ∧ P'.ln = 0 ∧ P'.R = roN ∧ P'.told = true := by
  obtain ⟨g1, g3, P4, g4, p1, p2, p3⟩ := orun_no (wn.pl D.k) hkey hB
  have hR : oneR M D (lokN D.k 2) (bktN D.k 2) = roN := by
    unfold oneR takeR
    unfold oneB at hB
    rw [hB]; exact if_neg (by decide)
  have hl1 : ∀ i, i < 4 → (oitn (M, on0 D) i).2.ln = 1 → i < 3 := fun i hi hl => by
    by_cases h : i < 3
    · exact h
    · obtain rfl : i = 3 := by omega
      rw [g3] at hl; omega
  have hn3 : ∀ i, i < 4 → ¬ (oitn (M, on0 D) i).2.ln = 3 := fun i hi => by
    by_cases h : i < 3
    · rw [g1 i h]; omega
    · obtain rfl : i = 3 := by omega
      rw [g3]; omega
  refine (run_o (n := 4) (most := most) h (by omega) (by omega) hm.2 (fun i hi => ⟨oroom hT hb wn hk hq hkey (by omega) (hl1 i hi) (fun hl => absurd hl (hn3 i hi)), hfi i (hl1 i hi)⟩) (fun i hi => ?_) (by rw [g4]; exact p1)).mono ?_
  · by_cases h : i < 3
    · rw [g1 i h]; omega
    · obtain rfl : i = 3 := by omega
      rw [g3]; omega
  · rintro e' w' ⟨rfl, h'⟩
    rw [g4] at h'
    exact ⟨rfl, P4, h', p1, p2.trans hR, p3⟩
theorem one_yesF {most : Nat} (hT : Tab w0) (hb : 0 < base) (wn : Wn M q ta T k) (hk : k ≤ 50000) (hq : ∀ i, (q i).length ≤ 100) (hkey : D.k < 4294967296) (hfi : ∀ i, ((oitn (M, on0 D) i).2.ln = 1 → i < 3) → (oitn (M, on0 D) i).2.ln = 1 → (enE (oitn (M, on0 D) i).1 (oitn (M, on0 D) i).2.E).ln = 0 → Fires w0 base WB (oitn (M, on0 D) i).1 j (oitn (M, on0 D) i).2) (hB : oneB M D (lokN D.k 2) (bktN D.k 2) = true) (hth : 0 ≤ (oneR M D (lokN D.k 2) (bktN D.k 2)).th ∧ (oneR M D (lokN D.k 2) (bktN D.k 2)).th < 64) (hm : 5 ≤ most ∧ most ≤ 100)
    (h : OnR w0 w base WB M r j e u (on0 D) B) :
    Calls Tryz.prog 16 #[Pw WB, .iface 76 (Pw B), .int .i64 (most : Int)] w fun e' w' => e' = .returned (.int .i64 5) ∧ ∃ P', OnR w0 w' base WB (oneU M D (lokN D.k 2) (bktN D.k 2)) r j e u P' B ∧ P'.ln = 0 ∧ P'.R = oneR M D (lokN D.k 2) (bktN D.k 2) ∧ P'.told = true := by
  obtain ⟨g1, g3, g4, P5, g5, p1, p2, p3⟩ := orun_yes (wn.pl D.k) hkey hB
  have hl1 : ∀ i, i < 5 → (oitn (M, on0 D) i).2.ln = 1 → i < 3 := fun i hi hl => by
    by_cases h : i < 3
    · exact h
    · rcases (show i = 3 ∨ i = 4 by omega) with rfl | rfl
      · rw [g3.1] at hl; omega
      · rw [g4] at hl; omega
  have hth3 : ∀ i, i < 5 → (oitn (M, on0 D) i).2.ln = 3 → 0 ≤ (oitn (M, on0 D) i).2.R.th ∧ (oitn (M, on0 D) i).2.R.th < 64 := fun i hi hl => by
    by_cases h : i < 3
    · rw [g1 i h] at hl; omega
    · rcases (show i = 3 ∨ i = 4 by omega) with rfl | rfl
      · rw [g3.2]; exact hth
      · rw [g4] at hl; omega
  refine (run_o (n := 5) (most := most) h (by omega) (by omega) hm.2 (fun i hi => ⟨oroom hT hb wn hk hq hkey hi (hl1 i hi) (hth3 i hi), hfi i (hl1 i hi)⟩) (fun i hi => ?_) (by rw [g5]; exact p1)).mono ?_
  · by_cases h : i < 3
    · rw [g1 i h]; omega
    · rcases (show i = 3 ∨ i = 4 by omega) with rfl | rfl
      · rw [g3.1]; omega
      · rw [g4]; omega
  · rintro e' w' ⟨rfl, h'⟩
    rw [g5] at h'
    exact ⟨rfl, P5, h', p1, p2, p3⟩
theorem one_no {most : Nat} (hT : Tab w0) (hb : 0 < base) (wn : Wn M q ta T k) (hk : k ≤ 50000) (hq : ∀ i, (q i).length ≤ 100) (hkey : D.k < 4294967296) (hf : ¬ ta (bktN D.k 2) < (T : Int)) (hB : oneB M D (lokN D.k 2) (bktN D.k 2) = false) (hm : 5 ≤ most ∧ most ≤ 100)
    (h : OnR w0 w base WB M r j e u (on0 D) B) :
    Calls Tryz.prog 16 #[Pw WB, .iface 76 (Pw B), .int .i64 (most : Int)] w fun e' w' => e' = .returned (.int .i64 4) ∧ ∃ P', OnR w0 w' base WB ((oneM M D (lokN D.k 2) (bktN D.k 2)).acc 5 (lokN D.k 2) 0) r j e u P' B ∧ P'.ln = 0 ∧ P'.R = roN ∧ P'.told = true :=
  one_noF hT hb wn hk hq hkey (fun _ h1 => fires_no wn hkey hf h1) hB hm h
theorem one_yes {most : Nat} (hT : Tab w0) (hb : 0 < base) (wn : Wn M q ta T k) (hk : k ≤ 50000) (hq : ∀ i, (q i).length ≤ 100) (hkey : D.k < 4294967296) (hf : ¬ ta (bktN D.k 2) < (T : Int)) (hB : oneB M D (lokN D.k 2) (bktN D.k 2) = true) (hth : 0 ≤ (oneR M D (lokN D.k 2) (bktN D.k 2)).th ∧ (oneR M D (lokN D.k 2) (bktN D.k 2)).th < 64) (hm : 5 ≤ most ∧ most ≤ 100)
    (h : OnR w0 w base WB M r j e u (on0 D) B) :
    Calls Tryz.prog 16 #[Pw WB, .iface 76 (Pw B), .int .i64 (most : Int)] w fun e' w' => e' = .returned (.int .i64 5) ∧ ∃ P', OnR w0 w' base WB (oneU M D (lokN D.k 2) (bktN D.k 2)) r j e u P' B ∧ P'.ln = 0 ∧ P'.R = oneR M D (lokN D.k 2) (bktN D.k 2) ∧ P'.told = true :=
  one_yesF hT hb wn hk hq hkey (fun _ h1 => fires_no wn hkey hf h1) hB hth hm h
end
end Go.Proofs.YtieiiabbeglmfaaGreatDoor.S19
