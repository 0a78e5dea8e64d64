/- Texts of this seat, one behind the other. -/
import Derived.Test.YtieiiabbeglmfaaGreatDoorMLawOldest2047
import Derived.Test.YtieiiabbeglmfaaGreatDoorMLawOldest2048
set_option linter.unusedVariables false
set_option linter.unusedSimpArgs false
set_option linter.unusedVariables false
set_option linter.unusedSimpArgs false
namespace Go.Proofs.YtieiiabbeglmfaaGreatDoor.S19
set_option maxRecDepth 100000
set_option maxHeartbeats 16000000
open Go.Proofs.YtieiiabbeglmfaaGreatDoor Go.Proofs.YtieiiabbeglmfaaGreatDoor.S11 Go.Proofs.YtieiiabbeglmfaaGreatDoor.S12 Go.Proofs.YtieiiabbeglmfaaGreatDoor.S13 Go.Proofs.YtieiiabbeglmfaaGreatDoor.S14 Go.Proofs.YtieiiabbeglmfaaGreatDoor.S15 Go.Proofs.YtieiiabbeglmfaaGreatDoor.S16 Go.Proofs.YtieiiabbeglmfaaGreatDoor.S18
open Go.RowKit
def cnt4 (q : Nat → List S10.Ent) (t : Int) : Nat := (List.map (fun i => ((q i).filter (fun e => decide (e.t = t))).length) [0, 1, 2, 3]).sum
theorem plM_one {m : Int → List S10.Bk} {t : Int} (hl : (m 2).length = 4) (hx : ∀ b : Int, b ≠ 2 → m b = []) : (S10.plM m t 7).length = cnt4 (fun i => (m 2)[i]!.q) t := by
  have e : S10.plM m t 7 = S10.plT 2 t (m 2) 4 := by
    unfold S10.plM
    rw [show List.range 7 = [0, 1, 2, 3, 4, 5, 6] from rfl]
    simp only [List.flatMap_cons, List.flatMap_nil]
    rw [hx ((1 + 2 : Nat) : Int) (by decide), hx ((2 + 2 : Nat) : Int) (by decide), hx ((3 + 2 : Nat) : Int) (by decide), hx ((4 + 2 : Nat) : Int) (by decide), hx ((5 + 2 : Nat) : Int) (by decide), hx ((6 + 2 : Nat) : Int) (by decide)]
    rw [show ((0 + 2 : Nat) : Int) = 2 from rfl, hl]
    exact List.append_nil _
  rw [e]
  unfold S10.plT cnt4
  rw [show List.range 4 = [0, 1, 2, 3] from rfl]
  simp only [List.flatMap_cons, List.flatMap_nil, List.length_append, List.map_cons, List.map_nil, List.sum_cons, List.sum_nil, List.length_nil]
  unfold S10.plQ
  simp only [List.length_map]
section
variable {w0 w w' : World} {base WB : Nat} {M : Sd} {q : Nat → List S10.Ent} {ta : Nat → Int} {T k : Nat} {H : List Part} {L : List Rows}
theorem AllS.places (h : AllS w0 w base WB M H L) (wn : Wn M q ta T k) (hq : ∀ i, (q i).length ≤ 100) (hx : ∀ b : Int, b ≠ 2 → M.m b = []) :
    ∃ ts, ∀ W, Below w.heap.size w W → W.cell? ⟨WB, 4, none⟩ = some ts ∧ ∀ t : Int, Calls Tryz.prog 30 #[ts, .int .i64 t] W fun e w' => ∃ A, e = .returned (.slice A (cnt4 q t) (cnt4 q t)) ∧ Below W.heap.size W w' := by
  obtain ⟨q1, q2, X, hp⟩ := h
  refine ⟨X.ts, fun W b => ?_⟩
  have hp' := hp.new b
  have eM : X.tM = M.m := congrArg Sd.m hp'.xm
  have c4 : W.cell? ⟨WB, 4, none⟩ = some X.ts := by rw [← hp'.wB]; exact hp'.pw.c4
  obtain ⟨Fs, hr⟩ := hp'.pw.tables.rs
  rw [eM] at hr
  refine ⟨c4, fun t => ?_⟩
  have hb4 : ∀ i, i < (M.m 2).length → (M.m 2)[i]!.q.length ≤ 100 := fun i hi => by
    have h4 : i < 4 := by rw [wn.len] at hi; exact hi
    have e : (M.m 2)[i]!.q = q i := wn.q i h4
    rw [e]; exact hq i
  have hc : (S10.plM M.m t 7).length = cnt4 q t := by
    rw [plM_one wn.len hx]
    have e : ∀ i, i < 4 → (M.m 2)[i]!.q = q i := wn.q
    unfold cnt4
    simp only [List.map_cons, List.map_nil]
    rw [e 0 (by omega), e 1 (by omega), e 2 (by omega), e 3 (by omega)]
  refine (S10.places_any hr t (fun b => ?_) (fun b i hi => ?_)).mono ?_
  · by_cases hb : b = 2
    · rw [hb, wn.len]; omega
    · rw [hx b hb]; exact Nat.zero_le _
  · by_cases hb : b = 2
    · rw [hb] at hi ⊢; exact hb4 i hi
    · rw [hx b hb] at hi; exact absurd hi (Nat.not_lt_zero _)
  · rintro e w' ⟨A, rfl, -, hb⟩
    rw [hc]
    exact ⟨A, rfl, hb⟩
theorem eqK0 (w : World) : (binOp .eql 184 (.agg #[.bool false, .bool false, .bool false, .int .u64 0]) (.agg #[.bool false, .bool false, .bool false, .int .u64 0])).run Tryz.prog w = .ok (.bool true) w := by kernel_rfl
theorem eqK1 (w : World) : (binOp .eql 184 (.agg #[.bool false, .bool true, .bool false, .int .u64 0]) (.agg #[.bool false, .bool false, .bool false, .int .u64 0])).run Tryz.prog w = .ok (.bool false) w := by kernel_rfl
theorem eqK2 (w : World) : (binOp .eql 184 (.agg #[.bool true, .bool true, .bool false, .int .u64 0]) (.agg #[.bool false, .bool false, .bool false, .int .u64 0])).run Tryz.prog w = .ok (.bool false) w := by kernel_rfl
theorem pgoes0 (w : World) : Calls Tryz.prog 77 #[.agg #[.bool false, .bool false, .bool false, .int .u64 0], .int .u64 0] w fun e w' => e = .returned (.bool true) ∧ Below w.heap.size w w' := by
  have e := eqK0
  go_enter Tryz.func77, Tryz.ntmps77
  go_wp2_with fail
  go_ret
  exact ⟨rfl, below1 w _⟩
theorem pgoes1 (w : World) : Calls Tryz.prog 77 #[.agg #[.bool false, .bool true, .bool false, .int .u64 0], .int .u64 0] w fun e w' => e = .returned (.bool false) ∧ Below w.heap.size w w' := by
  have e := eqK1
  go_enter Tryz.func77, Tryz.ntmps77
  go_wp2_with fail
  go_ret
  exact ⟨rfl, below1 w _⟩
theorem pgoes2 (w : World) : Calls Tryz.prog 77 #[.agg #[.bool true, .bool true, .bool false, .int .u64 0], .int .u64 0] w fun e w' => e = .returned (.bool true) ∧ Below w.heap.size w w' := by
  have e := eqK2
  go_enter Tryz.func77, Tryz.ntmps77
  go_wp2_with fail
  go_ret
  exact ⟨rfl, below1 w _⟩
def Gos (x : S4.Pk) (b : Bool) : Prop := x = S4.pk0 ∧ b = true ∨ x = ⟨false, true, false, 0⟩ ∧ b = false ∨ x = ⟨true, true, false, 0⟩ ∧ b = true
theorem pgoes_ {x : S4.Pk} {b : Bool} (h : Gos x b) (w : World) : Calls Tryz.prog 77 #[.agg #[.bool x.p, .bool x.a, .bool x.o, .int .u64 (x.t : Int)], .int .u64 0] w fun e w' => e = .returned (.bool b) ∧ Below w.heap.size w w' := by
  rcases h with ⟨rfl, rfl⟩ | ⟨rfl, rfl⟩ | ⟨rfl, rfl⟩
  · exact pgoes0 w
  · exact pgoes1 w
  · exact pgoes2 w
theorem goes_at {B : Nat} {f : Nat → S4.Pk} {n kd pk : Int} {x : S4.Pk} {b : Bool} (h : S4.PkAt w B f n kd pk) {i : Nat} (hi : i < 128) (hx : f i = x) (hg : Gos x b) : Calls Tryz.prog 28 #[Pw B, .int .i64 (i : Int), .int .u64 0] w fun e w' => e = .returned (.bool b) ∧ Below w.heap.size w w' := by
  have HQ := Lib.hid (S4.phas_yes B i hi); have HG := Lib.hid (fun W => pgoes_ hg W)
  have c0 := h.c0 i hi; have c1 := h.c1 i hi; have c2 := h.c2 i hi; have c3 := h.c3 i hi
  rw [hx] at c0 c1 c2 c3
  have h1 : (i : Int) < 128 := by omega
  clear h hx hg
  obtain ⟨p, a, o, t⟩ := x
  simp only at c0 c1 c2 c3
  go_enter Tryz.func28, Tryz.ntmps28
  go_wp2_with (first
    | (go_at_call 76; refine (HQ.out _).mono ?_; rintro e w1 ⟨rfl, rfl⟩)
    | (go_at_call 77; refine (HG.out _).mono ?_; rintro e w2 ⟨rfl, hb2⟩; have HB2 := Lib.hid hb2; clear hb2))
  go_ret
  exact ⟨rfl, HB2.out⟩
theorem AllS.goes (h : AllS w0 w base WB M H L) : ∃ ps, ∀ W, Below w.heap.size w W → W.cell? ⟨WB, 2, none⟩ = some ps ∧ ∀ (t : Nat) (x : S4.Pk) (b : Bool), t < 64 → M.pf (2 * t) = x → Gos x b → Calls Tryz.prog 28 #[ps, .int .i64 ((2 * t : Nat) : Int), .int .u64 0] W fun e w' => e = .returned (.bool b) ∧ Below W.heap.size W w' := by
  obtain ⟨q1, q2, X, hp⟩ := h
  refine ⟨Pw X.pB, fun W hb => ⟨(hp.new hb).c.2.1, fun t x b ht hx hg => ?_⟩⟩
  have hk := (hp.new hb).pw.permits
  rw [show X.pf = M.pf from congrArg Sd.pf hp.xm] at hk
  exact goes_at hk (by omega) hx hg
end
end Go.Proofs.YtieiiabbeglmfaaGreatDoor.S19
set_option linter.unusedVariables false
set_option linter.unusedSimpArgs false
namespace Go.Proofs.YtieiiabbeglmfaaGreatDoor.S19
open Go.Proofs.YtieiiabbeglmfaaGreatDoor Go.Proofs.YtieiiabbeglmfaaGreatDoor.S11 Go.Proofs.YtieiiabbeglmfaaGreatDoor.S12 Go.Proofs.YtieiiabbeglmfaaGreatDoor.S13 Go.Proofs.YtieiiabbeglmfaaGreatDoor.S14 Go.Proofs.YtieiiabbeglmfaaGreatDoor.S15 Go.Proofs.YtieiiabbeglmfaaGreatDoor.S16 Go.Proofs.YtieiiabbeglmfaaGreatDoor.S18
open Go.RowKit
structure OkO (ks : List Nat) (G : Nat → Bool) (M : Sd) (k : Nat) : Prop where
  wn : Wn M (sQg ks G) (fun _ => 0) 0 k
  mx : ∀ b : Int, b ≠ 2 → M.m b = []
  pf : ∀ i, i < ks.length → M.pf (2 * i) = if G i = true then S4.pk0 else ⟨false, true, false, 0⟩
theorem OkO.mono {ks : List Nat} {G : Nat → Bool} {M : Sd} {k k' : Nat} (h : OkO ks G M k) (hk : k ≤ k') : OkO ks G M k' := ⟨h.wn.mono hk, h.mx, h.pf⟩
theorem kyN_lt (a : Nat) : kyN a < 4294967296 := by unfold kyN; omega
theorem acc_pf (N : Sd) (k a v : Nat) : (N.acc k a v).pf = N.pf := rfl
theorem acc_m (N : Sd) (k a v : Nat) : (N.acc k a v).m = N.m := rfl
theorem oneA_pf (M : Sd) (D : Od) (a pi : Nat) : ((oneM M D a pi).acc 5 a 0).pf = M.pf := by
  rw [acc_pf]
  unfold oneM
  rw [(takeM_L (mE M a 2) D.t ((2 : Nat) : Int) pi D.k).2.2.1]
  rfl
theorem oneA_m (M : Sd) (D : Od) (a pi : Nat) {b : Int} (h : b ≠ 2) : ((oneM M D a pi).acc 5 a 0).m b = M.m b := by
  rw [acc_m]
  exact oneM_m M D a pi h
section
variable {w0 w w' : World} {base WB : Nat} {M : Sd} {k : Nat} {r : List Part} {j e u B : Nat} {D : Od} {ks : List Nat} {G : Nat → Bool} {a most : Nat}
theorem ask_no_ (hT : Tab w0) (hb : 0 < base) (ok : OkO ks G M k) (hk : k ≤ 50000) (hn : ks.length ≤ 60) (hD : D.k = kyN a) (hW : wS ks G a 0 = []) (hm : 5 ≤ most ∧ most ≤ 100) (h : OnR w0 w base WB M r j e u (on0 D) B) :
    Calls Tryz.prog 16 #[Pw WB, .iface 76 (Pw B), .int .i64 (most : Int)] w fun e' w' => e' = .returned (.int .i64 4) ∧ ∃ M' P', OnR w0 w' base WB M' r j e u P' B ∧ P'.R = roN ∧ P'.told = true ∧ OkO ks G M' (k + 10) := by
  have hkey : D.k < 4294967296 := by rw [hD]; exact kyN_lt a
  have hq : ∀ i, (sQg ks G i).length ≤ 100 := fun i => Nat.le_trans (sQg_len ks G i) (by omega)
  have hB : oneB M D (lokN D.k 2) (bktN D.k 2) = false := by rw [ok.wn.oneB D, hD]; exact ask_no hW
  have hf : ¬ (fun _ => 0 : Nat → Int) (bktN D.k 2) < ((0 : Nat) : Int) := by show ¬ (0 : Int) < ((0 : Nat) : Int); omega
  refine (one_no hT hb ok.wn hk hq hkey hf hB hm h).mono ?_
  rintro e' w' ⟨rfl, P', h', p1, p2, p3⟩
  exact ⟨rfl, _, P', h', p2, p3, ok.wn.no hkey hB, fun b hb => (oneA_m M D _ _ hb).trans (ok.mx b hb), fun i hi => by rw [oneA_pf]; exact ok.pf i hi⟩
theorem ask_yes_ {x : Nat} {l : List Nat} (hT : Tab w0) (hb : 0 < base) (ok : OkO ks G M k) (hk : k ≤ 50000) (hn : ks.length ≤ 60) (hD : D.k = kyN a) (hW : wS ks G a 0 = x :: l) (hm : 5 ≤ most ∧ most ≤ 100) (h : OnR w0 w base WB M r j e u (on0 D) B) :
    Calls Tryz.prog 16 #[Pw WB, .iface 76 (Pw B), .int .i64 (most : Int)] w fun e' w' => e' = .returned (.int .i64 5) ∧ ∃ M' P', OnR w0 w' base WB M' r j e u P' B ∧ P'.R = ⟨1, decide (1 ≤ l.length), false, (x : Int)⟩ ∧ P'.told = true ∧ Wn M' (sQg ks (gset G x)) (fun _ => 0) 0 (k + 10) ∧ (∀ b : Int, b ≠ 2 → M'.m b = []) ∧ (∀ i, i < ks.length → M'.pf (2 * i) = if i = x then ⟨true, true, false, 0⟩ else if G i = true then S4.pk0 else ⟨false, true, false, 0⟩) ∧ M'.tk x = D.z := by
  have hkey : D.k < 4294967296 := by rw [hD]; exact kyN_lt a
  have hq : ∀ i, (sQg ks G i).length ≤ 100 := fun i => Nat.le_trans (sQg_len ks G i) (by omega)
  obtain ⟨y1, y2, y3, y4⟩ := ask_yes hW
  have hx := wS_mem (k := 0) (show x ∈ wS ks G a 0 by rw [hW]; exact List.mem_cons_self)
  have hB : oneB M D (lokN D.k 2) (bktN D.k 2) = true := by rw [ok.wn.oneB D, hD]; exact y1
  have hf : ¬ (fun _ => 0 : Nat → Int) (bktN D.k 2) < ((0 : Nat) : Int) := by show ¬ (0 : Int) < ((0 : Nat) : Int); omega
  obtain ⟨wy, hR⟩ := ok.wn.yes (D := D) hkey hB hf
  have hR' : oneR M D (lokN D.k 2) (bktN D.k 2) = ⟨1, decide (1 ≤ l.length), false, (x : Int)⟩ := by rw [hR, hD, y4, y2]
  have hu : updQ (sQg ks G) (bktN D.k 2) (S10.cutL (sQg ks G (bktN D.k 2)) (S10.idx (S10.byKey (D.k : Int)) (sQg ks G (bktN D.k 2)))) = sQg ks (gset G x) := by rw [hD]; exact y3
  rw [hu] at wy
  obtain ⟨g1, g2⟩ := oneU_pf M D (lokN D.k 2) (bktN D.k 2)
  rw [hR'] at g1 g2
  have et : ((⟨1, decide (1 ≤ l.length), false, (x : Int)⟩ : Ro).th).toNat = x := Int.toNat_natCast x
  rw [et] at g1 g2
  refine (one_yes hT hb ok.wn hk hq hkey hf hB (by rw [hR']; show 0 ≤ (x : Int) ∧ (x : Int) < 64; omega) hm h).mono ?_
  rintro e' w' ⟨rfl, P', h', p1, p2, p3⟩
  refine ⟨rfl, _, P', h', p2.trans hR', p3, wy, fun b hb => (oneU_m M D _ _ hb).trans (ok.mx b hb), fun i hi => ?_, ?_⟩
  · rw [g1]
    unfold S4.updP
    by_cases hix : i = x
    · subst hix
      rw [if_pos rfl, if_pos rfl, ok.pf i hi, hx.2.2.1, if_neg (by decide)]
    · rw [if_neg (by omega), if_neg hix]
      exact ok.pf i hi
  · rw [g2]; unfold updT; rw [if_pos rfl]
theorem OkO.woke {x : Nat} (wn : Wn M (sQg ks (gset G x)) (fun _ => 0) 0 k) (mx : ∀ b : Int, b ≠ 2 → M.m b = []) (pf : ∀ i, i < ks.length → M.pf (2 * i) = if i = x then ⟨true, true, false, 0⟩ else if G i = true then S4.pk0 else ⟨false, true, false, 0⟩) : OkO ks (gset G x) (M.park (2 * x)) (k + 10) := by
  refine ⟨wn.park _, mx, fun i hi => ?_⟩
  show S4.updP M.pf (2 * x) (S4.parkK (M.pf (2 * x))) (2 * i) = _
  unfold S4.updP gset
  by_cases hix : i = x
  · subst hix
    rw [if_pos rfl, pf i hi, if_pos rfl, if_pos (by simp)]
    rfl
  · rw [if_neg (by omega), pf i hi, if_neg hix]
    simp [hix]
end
def gV (n : Nat) (G : Nat → Bool) : Array Value := ((List.range n).map (fun i => Value.bool (G i))).toArray
theorem gV_at {n : Nat} {G : Nat → Bool} {i : Nat} (hi : i < n) : (gV n G)[i]? = some (.bool (G i)) := by
  unfold gV
  rw [List.getElem?_toArray, List.getElem?_map, List.getElem?_range hi]; rfl
theorem gV_set {n : Nat} {G : Nat → Bool} {x : Nat} : (gV n G).setIfInBounds x (.bool true) = gV n (gset G x) := by
  apply Array.ext_getElem?
  intro i
  rw [Array.getElem?_setIfInBounds]
  by_cases hi : i < n
  · rw [gV_at hi, gV_at hi]
    have hs : (gV n G).size = n := by simp [gV]
    by_cases hx : x = i
    · subst hx
      rw [if_pos rfl, if_pos (by rw [hs]; exact hi)]
      simp [gset]
    · rw [if_neg hx]
      have : ¬ i = x := fun e => hx e.symm
      simp [gset, this]
  · have h1 : (gV n G)[i]? = none := by simp [gV]; omega
    have h2 : (gV n (gset G x))[i]? = none := by simp [gV]; omega
    have hs : (gV n G).size = n := by simp [gV]
    rw [h1, h2]
    split
    · rw [if_neg (by rw [hs]; omega)]
    · rfl
theorem gV_0 (n : Nat) : gV n (fun _ => false) = (List.replicate n (Value.bool false)).toArray := by
  unfold gV
  congr 1
  induction n with
  | zero => rfl
  | succ n ih => rw [List.range_succ, List.map_append, ih, List.replicate_succ']; rfl
def SlG (ks : List Nat) (G : Nat → Bool) (L : List Rows) (Bs : List Nat) : Prop := Bs.length = ks.length ∧ ∀ i, i < ks.length → G i = false → ∃ l E F, L[i]? = some l ∧ Slp l ⟨8, sD ks i, 2, bktN (kyN ks[i]!) 2, E, F, 0, 0⟩ Bs[i]!
theorem SlG.gone {ks : List Nat} {G : Nat → Bool} {L : List Rows} {Bs : List Nat} (h : SlG ks G L Bs) (x : Nat) (l : Rows) : SlG ks (gset G x) (L.set x l) Bs := by
  refine ⟨h.1, fun i hi hg => ?_⟩
  have h1 : G i = false ∧ ¬ i = x := by
    unfold gset at hg
    rw [Bool.or_eq_false_iff] at hg
    exact ⟨hg.1, of_decide_eq_false hg.2⟩
  obtain ⟨l', E, F, g1, g2⟩ := h.2 i hi h1.1
  exact ⟨l', E, F, by rw [List.getElem?_set_ne (fun e => h1.2 e.symm)]; exact g1, g2⟩
end Go.Proofs.YtieiiabbeglmfaaGreatDoor.S19
