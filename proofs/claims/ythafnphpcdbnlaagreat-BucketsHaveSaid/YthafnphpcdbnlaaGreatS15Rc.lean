/- A runner's step. -/
import Derived.Test.YthafnphpcdbnlaaGreatS15Rb
set_option linter.unusedVariables false
set_option linter.unusedSimpArgs false
namespace Go.Proofs.YthafnphpcdbnlaaGreat.S15
open Go.Proofs.YthafnphpcdbnlaaGreat Go.Proofs.YthafnphpcdbnlaaGreat.S11 Go.Proofs.YthafnphpcdbnlaaGreat.S12 Go.Proofs.YthafnphpcdbnlaaGreat.S13 Go.Proofs.YthafnphpcdbnlaaGreat.S14
open Go.RowKit

theorem en_ow (M : Sd) (E : En) : (enE M E).ow = E.ow := by
  unfold enE
  split <;> (try rfl) <;> (split <;> rfl)
theorem en_kw (M : Sd) {E : En} (h : E.ow = false) (g : E.ln ≠ 1 ∧ E.ln ≠ 5) : (enE M E).kw = E.kw := by
  obtain ⟨o, ln, t, kw, tw, K, F⟩ := E
  have h1 : ln ≠ 1 := g.1
  unfold enE
  split <;> (try rfl) <;> (try (split <;> rfl))
  · rename_i e
    exact absurd e h1
section
variable {w0 w w' : World} {base WB AB j u q : Nat} {M : Sd} {r r' : List Part} {C : Nat → Value} {X : Wm} {i : Nat} {R : Nat → Rn} {E : En} {F : Fr} {Z : Wb}
/-- What a step leaves. -/
def SStep (w0 w' : World) (base WB AB : Nat) (M : Sd) : Prop := ∃ M' R' r' C' X', Runs w0 w' base WB AB M' R' r' C' X' ∧ M'.n ≤ M.n + 1 ∧ M'.pn ≤ M.pn + 1
theorem look_of (h : Pg w0 w base WB M r X) (a : Nat) : S2.look M.L a < 18446744073709551616 := by
  have := S2.look_lt h.pw.cells.good a
  rwa [show X.L = M.L from congrArg Sd.L h.xm] at this
theorem Runs.wf (h : Runs w0 w base WB AB M R r C X) {U : Nat} (hp : r[1 + 2 * i]? = some (freeP U F)) : Wf w0 w base WB M r (1 + 2 * i) U F X :=
  ⟨by rw [set_eq hp]; exact h.rw'.pg, (List.getElem?_eq_some_iff.1 hp).1⟩
/-- A Free goes on. -/
theorem free_on (h : Runs w0 w base WB AB M R r C X) (hi : i < 4) (hr : R i = ⟨2, E, F⟩) {U : Nat} {X' : Wm} (g : Wf w0 w' base WB (fstepM M F) r (1 + 2 * i) U (fstepK M F) X') (hC : C (5 * i + 2) = nl ∧ C (5 * i + 3) = nl ∧ C (5 * i + 4) = Pw U) :
    ((fstepK M F).ln ≠ 0 → SStep w0 w' base WB AB M) ∧ ((fstepK M F).ln = 0 → SStep w0 (w'.setCell ⟨AB, 5 * i + 4, none⟩ nl) base WB AB M) := by
  have hv := h.inv.free hi hr (look_of h.rw'.pg)
  obtain ⟨a, ⟨kk, b, _⟩, _⟩ := h.at_ i hi
  have hfn := fstepM_n M F
  have hfo : FOk F := by have := h.fok i hi (by rw [hr]); rwa [hr] at this
  have hfo2 := hfo.step (look_of h.rw'.pg) (fun k => pg_le h.rw'.pg k)
  have hlen := h.rw'.len
  have hrw : Rw w0 w' base WB AB (fstepM M F) (r.set (1 + 2 * i) (freeP U (fstepK M F))) C X' := ⟨g.pg, by rw [List.length_set]; exact hlen, (List.getElem?_set_ne (by omega)).trans h.rw'.p0⟩
  refine ⟨fun h0 => ?_, fun h0 => ?_⟩
  · rw [if_neg h0] at hv
    exact ⟨_, _, _, _, _, h.turn hi hrw ⟨a, ⟨kk, b, fun e => by cases e⟩, .inr (.inr (.inr ⟨rfl, hC.1, hC.2.1, U, hC.2.2, List.getElem?_set_self (by omega)⟩))⟩ hv (fun e => by cases e) (fun _ => hfo2) (fstepM_sp M F) (fun k h1 h2 h3 => List.getElem?_set_ne (Ne.symm h2)) (fun m _ => rfl), hfn.1, hfn.2⟩
  · rw [if_pos h0] at hv
    have hp := hrw.put (m := 5 * i + 4) (by omega) nl
    refine ⟨_, _, _, _, _, h.turn hi hp ⟨(updC_else (by omega)).trans a, ⟨kk, (updC_else (by omega)).trans b, fun e => by cases e⟩, .inl ⟨rfl, (updC_else (by omega)).trans hC.1, (updC_else (by omega)).trans hC.2.1, updC_same _ _ _⟩⟩ hv (fun e => by cases e) (fun e => by cases e) (fstepM_sp M F) (fun k h1 h2 h3 => ?_) (fun m hm => updC_else (by omega)), hfn.1, hfn.2⟩
    rw [List.getElem?_set_ne (Ne.symm h1), List.getElem?_set_ne (Ne.symm h2)]
/-- A way goes on. -/
theorem way_on (h : Runs w0 w base WB AB M R r C X) (hi : i < 4) (hr : R i = ⟨1, E, F⟩) (h0 : E.ln ≠ 0) (hw : WayIn r (1 + 2 * i) (2 + 2 * i) E Z) (g : EStep w0 w' base WB M r (1 + 2 * i) (2 + 2 * i) E Z)
    (hC : (E.ow = false ∧ C (5 * i + 3) = nl ∧ C (5 * i + 4) = nl ∧ C (5 * i + 2) = Pw Z.B) ∨ (E.ow = true ∧ C (5 * i + 2) = nl ∧ C (5 * i + 4) = nl ∧ C (5 * i + 3) = Pw Z.B)) : SStep w0 w' base WB AB M := by
  obtain ⟨qq, Z', X', e1, e2, e3, e4, g⟩ := g
  have hv := h.inv.way hi hr h0 (look_of h.rw'.pg)
  obtain ⟨a, ⟨kk, b, bk⟩, _⟩ := h.at_ i hi
  have hok : EnOk E := by have := h.eok i hi (by rw [hr]); rwa [hr] at this
  have hok2 := hok.step h.ms (look_of h.rw'.pg) (fun k => pg_le h.rw'.pg k)
  have hlen := h.rw'.len
  obtain ⟨g1, g2⟩ := ew_in g
  have hn := eitn_n (M, E) 1
  have hn1 : (enM M E).n ≤ M.n + 1 := hn.1
  have hn2 : (enM M E).pn ≤ M.pn + 1 := hn.2.1
  have hn3 : (enM M E).sp = M.sp := hn.2.2.1
  have hrw : Rw w0 w' base WB AB (enM M E) ((r.set (2 + 2 * i) qq).set (1 + 2 * i) (wayP (enE M E).ow (enE M E).t (enE M E).kw (enE M E).tw Z')) C X' := ⟨g1, by rw [List.length_set, List.length_set]; exact hlen, by rw [List.getElem?_set_ne (by omega), List.getElem?_set_ne (by omega)]; exact h.rw'.p0⟩
  have how : (enE M E).ow = E.ow := en_ow M E
  have hkw : E.ow = false → (enE M E).kw = E.kw := fun e => en_kw M e (hok.en e)
  refine ⟨_, _, _, _, _, h.turn hi hrw ⟨a, ⟨kk, b, fun _ e => ?_⟩, ?_⟩ hv (fun _ => hok2) (fun e => by cases e) hn3 (fun k h1 h2 h3 => by rw [List.getElem?_set_ne (Ne.symm h2), List.getElem?_set_ne (Ne.symm h3)]) (fun m _ => rfl), hn1, hn2⟩
  · have e' : E.ow = false := how.symm.trans e
    have := bk (by rw [hr]) (by rw [hr]; exact e')
    rw [hr] at this
    exact this.trans (hkw e').symm
  · rcases hC with ⟨c1, c2, c3, c4⟩ | ⟨c1, c2, c3, c4⟩
    · exact .inr (.inl ⟨rfl, how.trans c1, c2, c3, Z', c4.trans (by rw [e1]), g2⟩)
    · exact .inr (.inr (.inl ⟨rfl, how.trans c1, c2, c3, Z', c4.trans (by rw [e1]), g2⟩))
/-- It leaves: a Free of its lock begins. -/
theorem leave_on (h : Runs w0 w base WB AB M R r C X) (hi : i < 4) (hr : R i = ⟨1, E, F⟩) (h0 : E.ln = 0) {M' : Sd} {X' : Wm} {C' : Nat → Value} (g : Rw w0 w' base WB AB M' r' C' X') (hs : ∀ a, a ≠ 64 + i → S2.look M'.L a = S2.look M.L a) (hvl : S2.look M'.L (64 + i) < 65536) (hsp : M'.sp = M.sp)
    (hr' : ∀ k, k ≠ 0 → k ≠ 1 + 2 * i → k ≠ 2 + 2 * i → r'[k]? = r[k]?) (hC : ∀ m, ¬ (5 * i ≤ m ∧ m < 5 * i + 5) → C' m = C m) (hC0 : C' (5 * i) = C (5 * i)) (hC1 : C' (5 * i + 1) = C (5 * i + 1)) {U : Nat} (hC2 : C' (5 * i + 2) = nl ∧ C' (5 * i + 3) = nl ∧ C' (5 * i + 4) = Pw U) (hU : r'[1 + 2 * i]? = some (freeP U (fr0 E.a))) :
    Runs w0 w' base WB AB M' (updR R i ⟨2, E, fr0 E.a⟩) r' C' X' := by
  have hv := h.inv.leave hi hr h0 hs hvl
  obtain ⟨a, ⟨kk, b, bk⟩, _⟩ := h.at_ i hi
  have ha := E.a_in
  exact h.turn hi g ⟨hC0.trans a, ⟨kk, hC1.trans b, fun e => by cases e⟩, .inr (.inr (.inr ⟨rfl, hC2.1, hC2.2.1, U, hC2.2.2, hU⟩))⟩ hv (fun e => by cases e) (fun _ => fok_new (by omega)) hsp hr' hC
set_option maxRecDepth 100000 in
set_option maxHeartbeats 4000000 in
theorem step_f2 (h : Runs w0 w base WB AB M R r C X) (hi : i < 4) (hn : M.n ≤ 900000000) (hp : M.pn ≤ 900000000) (b : Bool) {key : Nat} (hkey : key < 65536) (hr : R i = ⟨2, E, F⟩) :
    Calls Tryz.prog 10 #[Pq AB (5 * i), Pw WB, .bool b, .int .u32 (key : Int)] w fun e w' => e = .returned (.tuple #[]) ∧ SStep w0 w' base WB AB M := by
  have hins := inside_any h hi
  have hbel := fun W (hb : Below w.heap.size w W) => h.new hb
  rw [show (R i).inn = false from by unfold Rn.inn; rw [hr]; rfl, show (R i).ad = 0 from by unfold Rn.ad; rw [hr]; rfl] at hins
  have HI := Lib.hid hins; have HBL := Lib.hid hbel
  clear hins hbel
  have HR := Lib.hid (And.intro hi (And.intro hr (And.intro hn hp)))
  clear hr hn hp
  go_enter Tryz.func10, Tryz.ntmps10
  go_upto_region 1 with (go_at_call 8; refine HI.out.mono ?_; rintro e w1 ⟨rfl, hb1⟩; have HB1 := Lib.hid hb1; clear hb1)
  have h1 := HBL.out _ HB1.out
  obtain ⟨hi, hr1, hn, hp⟩ := HR.out
  obtain ⟨ra, rb, rc⟩ := h1.at_ i hi
  rw [hr1] at rc
  obtain ⟨U, hC1, hU1⟩ : ∃ U, (C (5 * i + 2) = nl ∧ C (5 * i + 3) = nl ∧ C (5 * i + 4) = Pw U) ∧ r[1 + 2 * i]? = some (freeP U F) := by
    rcases rc with ⟨c1, _⟩ | ⟨c1, _⟩ | ⟨c1, _⟩ | ⟨_, c2, c3, U, c4, c5⟩
    · cases c1
    · cases c1
    · cases c1
    · exact ⟨U, ⟨c2, c3, c4⟩, c5⟩
  have hp4 : C (5 * i + 4) = Pw U := hC1.2.2
  have y4 := h1.rw'.c (by omega) hp4
  have hfo1 : FOk F := by have := h1.fok i hi (by rw [hr1]); rwa [hr1] at this
  have hst := step_f (h1.wf hU1) (hfo1.ok (by omega) (by omega)) hfo1.ln
  have hon := fun W X' (g : Wf w0 W base WB (fstepM M F) r (1 + 2 * i) U (fstepK M F) X') => free_on h1 hi hr1 g hC1
  have hf4 : ∀ W X', Wf w0 W base WB (fstepM M F) r (1 + 2 * i) U (fstepK M F) X' → W.cell? ⟨AB, 5 * i + 4, none⟩ = some (Pw U) ∧ W.frozen? ⟨AB, 5 * i + 4, none⟩ = false := fun W X' g => by
    have hrw : Rw w0 W base WB AB (fstepM M F) (r.set (1 + 2 * i) (freeP U (fstepK M F))) C X' := ⟨g.pg, by rw [List.length_set]; exact h1.rw'.len, (List.getElem?_set_ne (by omega)).trans h1.rw'.p0⟩
    exact ⟨hrw.c (by omega) hp4, hrw.at.froz⟩
  have HST := Lib.hid hst; have HON := Lib.hid hon; have HF4 := Lib.hid hf4
  clear hst hon hf4 hfo1
  clear h1 h ra rb rc hr1 hn hp hi hU1 hC1 hp4 hkey
  by_cases hz : (fstepK M F).ln = 0
  · rw [decide_eq_true hz] at HST
    have HZ := Lib.hid hz
    clear hz
    go_upto_region 13 with (go_at_call 28; refine HST.out.mono ?_; rintro e w2 ⟨rfl, X2, hg⟩; have HG := Lib.hid hg; clear hg)
    have z4 := (HF4.out _ _ HG.out).1
    have g4 := (HF4.out _ _ HG.out).2
    go_wp2_with fail
    go_end0
    exact ⟨rfl, (HON.out _ _ HG.out).2 HZ.out⟩
  · rw [decide_eq_false hz] at HST
    have HZ := Lib.hid hz
    clear hz
    go_wp2_with (go_at_call 28; refine HST.out.mono ?_; rintro e w2 ⟨rfl, X2, hg⟩; have HG := Lib.hid hg; clear hg)
    go_end0
    exact ⟨rfl, (HON.out _ _ HG.out).1 HZ.out⟩
set_option maxRecDepth 100000 in
set_option maxHeartbeats 4000000 in
theorem step_o1 (h : Runs w0 w base WB AB M R r C X) (hi : i < 4) (hn : M.n ≤ 900000000) (hp : M.pn ≤ 900000000) (b : Bool) {key : Nat} (hkey : key < 65536) (hr : R i = ⟨1, E, F⟩) (h0 : E.ln ≠ 0) (ho : E.ow = true) :
    Calls Tryz.prog 10 #[Pq AB (5 * i), Pw WB, .bool b, .int .u32 (key : Int)] w fun e w' => e = .returned (.tuple #[]) ∧ SStep w0 w' base WB AB M := by
  have hins := inside_any h hi
  have hbel := fun W (hb : Below w.heap.size w W) => h.new hb
  rw [show (R i).inn = false from by unfold Rn.inn; rw [hr]; exact decide_eq_false (fun e => h0 e.2), show (R i).ad = 0 from by unfold Rn.ad; rw [hr]; exact if_neg (fun e => h0 e.2)] at hins
  have HI := Lib.hid hins; have HBL := Lib.hid hbel
  clear hins hbel
  have HR := Lib.hid (And.intro hi (And.intro hr (And.intro hn (And.intro hp (And.intro h0 ho)))))
  clear hr hn hp h0 ho
  go_enter Tryz.func10, Tryz.ntmps10
  go_upto_region 1 with (go_at_call 8; refine HI.out.mono ?_; rintro e w1 ⟨rfl, hb1⟩; have HB1 := Lib.hid hb1; clear hb1)
  have h1 := HBL.out _ HB1.out
  obtain ⟨hi, hr1, hn, hp, h10, ho1⟩ := HR.out
  obtain ⟨ra, rb, rc⟩ := h1.at_ i hi
  rw [hr1] at rc
  obtain ⟨Z1, hC1, hW1⟩ : ∃ Z1 : Wb, (C (5 * i + 2) = nl ∧ C (5 * i + 4) = nl ∧ C (5 * i + 3) = Pw Z1.B) ∧ WayIn r (1 + 2 * i) (2 + 2 * i) E Z1 := by
    rcases rc with ⟨c1, _⟩ | ⟨c1, c2, c3, c4, Z, c5, c6⟩ | ⟨c1, c2, c3, c4, Z, c5, c6⟩ | ⟨c1, _⟩
    · cases c1
    · exact absurd c2 (by rw [show (⟨1, E, F⟩ : Rn).E.ow = E.ow from rfl, ho1]; decide)
    · exact ⟨Z, ⟨c3, c4, c5⟩, c6⟩
    · cases c1
  have y3 := h1.rw'.c (by omega) hC1.2.2
  have y4 := h1.rw'.c (by omega) hC1.2.1
  have y2 := h1.rw'.c (by omega) hC1.1
  have hok1 : EnOk E := by have := h1.eok i hi (by rw [hr1]); rwa [hr1] at this
  have hst := ostep_any (hW1.ew h1.rw'.pg (by omega) (by rw [h1.rw'.len]; omega)) hok1 h1.ms (by omega) (by omega)
  have hon := fun W (g : EStep w0 W base WB M r (1 + 2 * i) (2 + 2 * i) E Z1) => way_on h1 hi hr1 h10 hW1 g (.inr ⟨ho1, hC1.1, hC1.2.1, hC1.2.2⟩)
  generalize decide ((enE M E).ln = 0) = bb at hst
  have HST := Lib.hid hst; have HON := Lib.hid hon
  clear hst hon hok1
  clear h1 h ra rb rc hr1 hn hp hi h10 ho1 hW1 hC1 hkey
  go_wp2_with (go_at_call 29; refine HST.out.mono ?_; rintro e w2 ⟨rfl, hg⟩; have HG := Lib.hid hg; clear hg)
  go_end0
  exact ⟨rfl, HON.out _ HG.out⟩
set_option maxRecDepth 100000 in
set_option maxHeartbeats 4000000 in
theorem step_e1 (h : Runs w0 w base WB AB M R r C X) (hi : i < 4) (hn : M.n ≤ 900000000) (hp : M.pn ≤ 900000000) (b : Bool) {key : Nat} (hkey : key < 65536) (hr : R i = ⟨1, E, F⟩) (h0 : E.ln ≠ 0) (ho : E.ow = false) :
    Calls Tryz.prog 10 #[Pq AB (5 * i), Pw WB, .bool b, .int .u32 (key : Int)] w fun e w' => e = .returned (.tuple #[]) ∧ SStep w0 w' base WB AB M := by
  have hins := inside_any h hi
  have hbel := fun W (hb : Below w.heap.size w W) => h.new hb
  rw [show (R i).inn = false from by unfold Rn.inn; rw [hr]; exact decide_eq_false (fun e => h0 e.2), show (R i).ad = 0 from by unfold Rn.ad; rw [hr]; exact if_neg (fun e => h0 e.2)] at hins
  have HI := Lib.hid hins; have HBL := Lib.hid hbel
  clear hins hbel
  have HR := Lib.hid (And.intro hi (And.intro hr (And.intro hn (And.intro hp (And.intro h0 ho)))))
  clear hr hn hp h0 ho
  go_enter Tryz.func10, Tryz.ntmps10
  go_upto_region 1 with (go_at_call 8; refine HI.out.mono ?_; rintro e w1 ⟨rfl, hb1⟩; have HB1 := Lib.hid hb1; clear hb1)
  have h1 := HBL.out _ HB1.out
  obtain ⟨hi, hr1, hn, hp, h10, ho1⟩ := HR.out
  obtain ⟨ra, rb, rc⟩ := h1.at_ i hi
  rw [hr1] at rc
  obtain ⟨Z1, hC1, hW1⟩ : ∃ Z1 : Wb, (C (5 * i + 3) = nl ∧ C (5 * i + 4) = nl ∧ C (5 * i + 2) = Pw Z1.B) ∧ WayIn r (1 + 2 * i) (2 + 2 * i) E Z1 := by
    rcases rc with ⟨c1, _⟩ | ⟨c1, c2, c3, c4, Z, c5, c6⟩ | ⟨c1, c2, c3, c4, Z, c5, c6⟩ | ⟨c1, _⟩
    · cases c1
    · exact ⟨Z, ⟨c3, c4, c5⟩, c6⟩
    · exact absurd c2 (by rw [show (⟨1, E, F⟩ : Rn).E.ow = E.ow from rfl, ho1]; decide)
    · cases c1
  have y2 := h1.rw'.c (by omega) hC1.2.2
  have y4 := h1.rw'.c (by omega) hC1.2.1
  have y3 := h1.rw'.c (by omega) hC1.1
  have hok1 : EnOk E := by have := h1.eok i hi (by rw [hr1]); rwa [hr1] at this
  have hst := estep_any (hW1.ew h1.rw'.pg (by omega) (by rw [h1.rw'.len]; omega)) hok1 h1.ms (by omega) (by omega)
  have hon := fun W (g : EStep w0 W base WB M r (1 + 2 * i) (2 + 2 * i) E Z1) => way_on h1 hi hr1 h10 hW1 g (.inl ⟨ho1, hC1.1, hC1.2.1, hC1.2.2⟩)
  generalize decide ((enE M E).ln = 0) = bb at hst
  have HST := Lib.hid hst; have HON := Lib.hid hon
  clear hst hon hok1
  clear h1 h ra rb rc hr1 hn hp hi h10 ho1 hW1 hC1 hkey
  go_wp2_with (go_at_call 30; refine HST.out.mono ?_; rintro e w2 ⟨rfl, hg⟩; have HG := Lib.hid hg; clear hg)
  go_end0
  exact ⟨rfl, HON.out _ HG.out⟩
set_option maxRecDepth 100000 in
set_option maxHeartbeats 4000000 in
theorem step_in (h : Runs w0 w base WB AB M R r C X) (hi : i < 4) (hn : M.n ≤ 900000000) (hp : M.pn ≤ 900000000) (b : Bool) {key : Nat} (hkey : key < 65536) (hr : R i = ⟨1, E, F⟩) (h0 : E.ln = 0) :
    Calls Tryz.prog 10 #[Pq AB (5 * i), Pw WB, .bool b, .int .u32 (key : Int)] w fun e w' => e = .returned (.tuple #[]) ∧ SStep w0 w' base WB AB M := by
  have hins := inside_any h hi
  have hbel := fun W (hb : Below w.heap.size w W) => h.new hb
  rw [show (R i).inn = true from by unfold Rn.inn; rw [hr]; exact decide_eq_true ⟨rfl, h0⟩, show (R i).ad = E.a from by unfold Rn.ad; rw [hr]; exact if_pos ⟨rfl, h0⟩] at hins
  have HI := Lib.hid hins; have HBL := Lib.hid hbel
  clear hins hbel
  have HR := Lib.hid (And.intro hi (And.intro hr (And.intro hn (And.intro hp h0))))
  have HH := Lib.hid h
  clear hr hn hp h0
  have HNF := Lib.hid (fun W => new_free E.a W)
  go_enter Tryz.func10, Tryz.ntmps10
  go_upto_region 2 with (go_at_call 8; refine HI.out.mono ?_; rintro e w1 ⟨rfl, hb1⟩; have HB1 := Lib.hid hb1; clear hb1)
  have g1 := (HBL.out _ HB1.out).rw'
  have hi' := HR.out.1
  have x2 := g1.at.cell (i := 5 * i + 2) (by omega)
  have f2 : w1.frozen? ⟨AB, 5 * i + 2, none⟩ = false := g1.at.froz
  have g2 := g1.put (m := 5 * i + 2) (by omega) nl
  have G2 := Lib.hid g2
  clear g1 g2
  go_upto_region 3 with fail
  obtain ⟨w2, hw2⟩ : ∃ w2, w2 = w1.setCell ⟨AB, 5 * i + 2, none⟩ nl := ⟨_, rfl⟩
  rw [← hw2] at G2 ⊢
  have x3 := G2.out.at.cell (i := 5 * i + 3) (by omega)
  have f3 : w2.frozen? ⟨AB, 5 * i + 3, none⟩ = false := G2.out.at.froz
  have G3 := Lib.hid (G2.out.put (m := 5 * i + 3) (by omega) nl)
  clear hw2 x2 f2
  go_upto_region 4 with fail
  obtain ⟨w3, hw3⟩ : ∃ w3, w3 = w2.setCell ⟨AB, 5 * i + 3, none⟩ nl := ⟨_, rfl⟩
  rw [← hw3] at G3 ⊢
  clear hw3 x3 f3
  have G4' := Lib.hid (Pg.freeAt (j := 1 + 2 * i) G3.out.pg (fr0 E.a) (by rw [G3.out.len]; omega))
  have G4 := Lib.hid (Rw.mk G4'.out (by rw [List.length_set]; exact G3.out.len) ((List.getElem?_set_ne (by omega)).trans G3.out.p0))
  have x4 := G4.out.at.cell (i := 5 * i + 4) (by omega)
  have f4 : (w3.alloc (.cells (fr0 E.a).cs 85)).frozen? ⟨AB, 5 * i + 4, none⟩ = false := G4.out.at.froz
  have G5 := Lib.hid (G4.out.put (m := 5 * i + 4) (by omega) (Pw w3.heap.size))
  clear G4'
  go_upto_region 11 with (go_at_call 9; refine (HNF.out _).mono ?_; rintro e w4 ⟨rfl, rfl⟩)
  obtain ⟨w5, hw5⟩ : ∃ w5, w5 = (w3.alloc (.cells (fr0 E.a).cs 85)).setCell ⟨AB, 5 * i + 4, none⟩ (Pw w3.heap.size) := ⟨_, rfl⟩
  rw [← hw5] at G5 ⊢
  clear hw5 x4 f4
  obtain ⟨U, hUe⟩ : ∃ U, U = w3.heap.size := ⟨_, rfl⟩
  rw [← hUe] at G5 ⊢
  clear hUe
  obtain ⟨hi, hr, hn, hp, h0⟩ := HR.out
  obtain ⟨r1, C1, h1, hC1, hU1⟩ : ∃ r1 C1, Runs w0 w5 base WB AB M (updR R i ⟨2, E, fr0 E.a⟩) r1 C1 X ∧ (C1 (5 * i + 2) = nl ∧ C1 (5 * i + 3) = nl ∧ C1 (5 * i + 4) = Pw U) ∧ r1[1 + 2 * i]? = some (freeP U (fr0 E.a)) := by
    have k2 : updC (updC (updC C (5 * i + 2) nl) (5 * i + 3) nl) (5 * i + 4) (Pw U) (5 * i + 2) = nl := by rw [updC_else (by omega), updC_else (by omega), updC_same]
    have k3 : updC (updC (updC C (5 * i + 2) nl) (5 * i + 3) nl) (5 * i + 4) (Pw U) (5 * i + 3) = nl := by rw [updC_else (by omega), updC_same]
    have hlen := HH.out.rw'.len
    have hU2 : ((((r.set 0 (runP AB (updC C (5 * i + 2) nl))).set 0 (runP AB (updC (updC C (5 * i + 2) nl) (5 * i + 3) nl))).set (1 + 2 * i) (freeP U (fr0 E.a))).set 0 (runP AB (updC (updC (updC C (5 * i + 2) nl) (5 * i + 3) nl) (5 * i + 4) (Pw U))))[1 + 2 * i]? = some (freeP U (fr0 E.a)) := by
      rw [List.getElem?_set_ne (by omega), List.getElem?_set_self (by simp; omega)]
    exact ⟨_, _, leave_on HH.out hi hr h0 G5.out (fun a _ => rfl) (HH.out.inv.kl i hi) rfl (fun k e1 e2 e3 => by rw [List.getElem?_set_ne (Ne.symm e1), List.getElem?_set_ne (Ne.symm e2), List.getElem?_set_ne (Ne.symm e1), List.getElem?_set_ne (Ne.symm e1)])
      (fun m hm => by rw [updC_else (by omega), updC_else (by omega), updC_else (by omega)]) (by rw [updC_else (by omega), updC_else (by omega), updC_else (by omega)]) (by rw [updC_else (by omega), updC_else (by omega), updC_else (by omega)]) ⟨k2, k3, updC_same _ _ _⟩ hU2, ⟨k2, k3, updC_same _ _ _⟩, hU2⟩
  have hr1 : updR R i ⟨2, E, fr0 E.a⟩ i = ⟨2, E, fr0 E.a⟩ := updR_same _ _ _
  generalize fr0 E.a = F1 at *
  have hp4 : C1 (5 * i + 4) = Pw U := hC1.2.2
  have y4 := h1.rw'.c (by omega) hp4
  have hfo1 : FOk F1 := by have := h1.fok i hi (by rw [hr1]); rwa [hr1] at this
  have hst := step_f (h1.wf hU1) (hfo1.ok (by omega) (by omega)) hfo1.ln
  have hon := fun W X' (g : Wf w0 W base WB (fstepM M F1) r1 (1 + 2 * i) U (fstepK M F1) X') => free_on h1 hi hr1 g hC1
  have hf4 : ∀ W X', Wf w0 W base WB (fstepM M F1) r1 (1 + 2 * i) U (fstepK M F1) X' → W.cell? ⟨AB, 5 * i + 4, none⟩ = some (Pw U) ∧ W.frozen? ⟨AB, 5 * i + 4, none⟩ = false := fun W X' g => by
    have hrw : Rw w0 W base WB AB (fstepM M F1) (r1.set (1 + 2 * i) (freeP U (fstepK M F1))) C1 X' := ⟨g.pg, by rw [List.length_set]; exact h1.rw'.len, (List.getElem?_set_ne (by omega)).trans h1.rw'.p0⟩
    exact ⟨hrw.c (by omega) hp4, hrw.at.froz⟩
  have HST := Lib.hid hst; have HON := Lib.hid hon; have HF4 := Lib.hid hf4
  clear hst hon hf4 hfo1
  clear h1 h hr1 hr h0 hn hp hi hi' hU1 hC1 hp4 hkey
  by_cases hz : (fstepK M F1).ln = 0
  · rw [decide_eq_true hz] at HST
    have HZ := Lib.hid hz
    clear hz
    go_upto_region 13 with (go_at_call 28; refine HST.out.mono ?_; rintro e w2 ⟨rfl, X2, hg⟩; have HG := Lib.hid hg; clear hg)
    have z4 := (HF4.out _ _ HG.out).1
    have g4 := (HF4.out _ _ HG.out).2
    go_wp2_with fail
    go_end0
    exact ⟨rfl, (HON.out _ _ HG.out).2 HZ.out⟩
  · rw [decide_eq_false hz] at HST
    have HZ := Lib.hid hz
    clear hz
    go_wp2_with (go_at_call 28; refine HST.out.mono ?_; rintro e w2 ⟨rfl, X2, hg⟩; have HG := Lib.hid hg; clear hg)
    go_end0
    exact ⟨rfl, (HON.out _ _ HG.out).1 HZ.out⟩
set_option maxRecDepth 100000 in
set_option maxHeartbeats 4000000 in
theorem step_no (h : Runs w0 w base WB AB M R r C X) (hi : i < 4) (hn : M.n ≤ 900000000) (hp : M.pn ≤ 900000000) (b : Bool) {key : Nat} (hkey : key < 65536) (hr : R i = ⟨0, E, F⟩) :
    Calls Tryz.prog 10 #[Pq AB (5 * i), Pw WB, .bool true, .int .u32 (key : Int)] w fun e w' => e = .returned (.tuple #[]) ∧ SStep w0 w' base WB AB M := by
  have hins := inside_any h hi
  have hbel := fun W (hb : Below w.heap.size w W) => h.new hb
  rw [show (R i).inn = false from by unfold Rn.inn; rw [hr]; rfl, show (R i).ad = 0 from by unfold Rn.ad; rw [hr]; rfl] at hins
  have HI := Lib.hid hins; have HBL := Lib.hid hbel
  clear hins hbel
  have HR := Lib.hid (And.intro hi (And.intro hr (And.intro hn (And.intro hp hkey))))
  have HH := Lib.hid h
  have hnw : ∀ W, Calls Tryz.prog 27 #[.int .i64 (i : Int)] W fun e w' => ∃ v, e = .returned v ∧ NewE W w' true i 0 v := fun W => new_own i (by omega) W
  have HNW := Lib.hid hnw
  clear hr hn hp hkey hnw
  go_enter Tryz.func10, Tryz.ntmps10
  go_upto_region 1 with (go_at_call 8; refine HI.out.mono ?_; rintro e w1 ⟨rfl, hb1⟩; have HB1 := Lib.hid hb1; clear hb1)
  have h1 := HBL.out _ HB1.out
  obtain ⟨ra, ⟨kk, rb, _⟩, rc⟩ := h1.at_ i hi
  obtain ⟨d2, d3, d4⟩ : C (5 * i + 2) = nl ∧ C (5 * i + 3) = nl ∧ C (5 * i + 4) = nl := by
    rw [HR.out.2.1] at rc
    rcases rc with ⟨_, c2, c3, c4⟩ | ⟨c1, _⟩ | ⟨c1, _⟩ | ⟨c1, _⟩
    · exact ⟨c2, c3, c4⟩
    · cases c1
    · cases c1
    · cases c1
  have x0 := h1.rw'.c (by omega) ra
  have x2 := h1.rw'.c (by omega) d2
  have x3 := h1.rw'.c (by omega) d3
  have x4 := h1.rw'.c (by omega) d4
  have HD := Lib.hid (And.intro ra (And.intro d2 (And.intro d3 d4)))
  have H1 := Lib.hid h1
  clear h1 ra rb rc d2 d3 d4
  go_upto_region 6 with fail
  have f3 : w1.frozen? ⟨AB, 5 * i + 3, none⟩ = false := H1.out.rw'.at.froz
  have hent : ∀ W v, NewE w1 W true i 0 v → ∃ Z : Wb, v = Pw Z.B ∧ Pg w0 W base WB M (r.set (1 + 2 * i) (wayP true i 0 0 Z)) X ∧ WayIn (r.set (1 + 2 * i) (wayP true i 0 0 Z)) (1 + 2 * i) (2 + 2 * i) (ow0 i) Z := fun W v hn => Pg.enterAt (E := ow0 i) H1.out.rw'.pg hn (by rw [H1.out.rw'.len]; omega) rfl rfl rfl rfl rfl
  have HENT := Lib.hid hent
  have hlt : AB < w1.heap.size := H1.out.rw'.ab
  have hf3 : ∀ W v, NewE w1 W true i 0 v → W.cell? ⟨AB, 5 * i + 3, none⟩ = some nl ∧ W.frozen? ⟨AB, 5 * i + 3, none⟩ = false := fun W v ⟨Z, _, _, hb, _⟩ => ⟨(hb.cell (p := ⟨AB, 5 * i + 3, none⟩) hlt).trans x3, (H1.out.rw'.new hb).at.froz⟩
  have HF3 := Lib.hid hf3
  clear hent hf3
  go_upto_region 11 with (go_at_call 27; refine (HNW.out _).mono ?_; rintro e w2 ⟨v, rfl, hnv⟩; (obtain ⟨Z1, rfl, hZ1⟩ := HENT.out _ _ hnv); have x3' := (HF3.out _ _ hnv).1; have f3' := (HF3.out _ _ hnv).2; have HZ := Lib.hid hZ1; clear hnv hZ1)
  obtain ⟨w3, hw3⟩ : ∃ w3, w3 = w2.setCell ⟨AB, 5 * i + 3, none⟩ (Pw Z1.B) := ⟨_, rfl⟩
  have hlen := H1.out.rw'.len
  have g2 : Rw w0 w2 base WB AB M (r.set (1 + 2 * i) (wayP true i 0 0 Z1)) C X := ⟨HZ.out.1, by rw [List.length_set]; exact hlen, (List.getElem?_set_ne (by omega)).trans H1.out.rw'.p0⟩
  have g3 := g2.put (m := 5 * i + 3) (by omega) (Pw Z1.B)
  rw [← hw3] at g3 ⊢
  obtain ⟨hi, hr, hn, hp, hkey⟩ := HR.out
  obtain ⟨r1, C1, h1, hC1, hW1⟩ : ∃ r1 C1, Runs w0 w3 base WB AB M (updR R i ⟨1, ow0 i, F⟩) r1 C1 X ∧ (C1 (5 * i + 2) = nl ∧ C1 (5 * i + 4) = nl ∧ C1 (5 * i + 3) = Pw Z1.B) ∧ WayIn r1 (1 + 2 * i) (2 + 2 * i) (ow0 i) Z1 := by
    have hW := HZ.out.2.keep (r' := (r.set (1 + 2 * i) (wayP true i 0 0 Z1)).set 0 (runP AB (updC C (5 * i + 3) (Pw Z1.B)))) (List.getElem?_set_ne (by omega)) (List.getElem?_set_ne (by omega))
    have k2 : updC C (5 * i + 3) (Pw Z1.B) (5 * i + 2) = nl := (updC_else (by omega)).trans HD.out.2.1
    have k4 : updC C (5 * i + 3) (Pw Z1.B) (5 * i + 4) = nl := (updC_else (by omega)).trans HD.out.2.2.2
    have hb := HH.out.inv.begin hi (E := ow0 i) (F := F) rfl (by show 0 < 65536; omega) (.inr ⟨rfl, rfl⟩)
    obtain ⟨_, ⟨kk, rb, _⟩, _⟩ := HH.out.at_ i hi
    exact ⟨_, _, HH.out.turn hi g3 ⟨(updC_else (by omega)).trans HD.out.1, ⟨kk, (updC_else (by omega)).trans rb, fun _ e => by cases e⟩, .inr (.inr (.inl ⟨rfl, rfl, k2, k4, Z1, updC_same _ _ _, hW⟩))⟩ hb (fun _ => ok_ow (by omega)) (fun e => by cases e) rfl (fun k e1 e2 e3 => by rw [List.getElem?_set_ne (Ne.symm e1), List.getElem?_set_ne (Ne.symm e2)]) (fun m hm => updC_else (by omega)), ⟨k2, k4, updC_same _ _ _⟩, hW⟩
  have hr1 : updR R i ⟨1, ow0 i, F⟩ i = ⟨1, ow0 i, F⟩ := updR_same _ _ _
  have h10 : (ow0 i).ln ≠ 0 := by show 1 ≠ 0; omega
  have ho1 : (ow0 i).ow = true := rfl
  generalize ow0 i = E1 at *
  clear g2 g3 hw3 x0 x2 x3 x4 f3 x3' f3'
  have y3 := h1.rw'.c (by omega) hC1.2.2
  have y4 := h1.rw'.c (by omega) hC1.2.1
  have y2 := h1.rw'.c (by omega) hC1.1
  have hok1 : EnOk E1 := by have := h1.eok i hi (by rw [hr1]); rwa [hr1] at this
  have hst := ostep_any (hW1.ew h1.rw'.pg (by omega) (by rw [h1.rw'.len]; omega)) hok1 h1.ms (by omega) (by omega)
  have hon := fun W (g : EStep w0 W base WB M r1 (1 + 2 * i) (2 + 2 * i) E1 Z1) => way_on h1 hi hr1 h10 hW1 g (.inr ⟨ho1, hC1.1, hC1.2.1, hC1.2.2⟩)
  generalize decide ((enE M E1).ln = 0) = bb at hst
  have HST := Lib.hid hst; have HON := Lib.hid hon
  clear hst hon hok1
  clear h1 h hr1 hr hn hp hi h10 ho1 hW1 hC1 hkey
  go_wp2_with (go_at_call 29; refine HST.out.mono ?_; rintro e w2 ⟨rfl, hg⟩; have HG := Lib.hid hg; clear hg)
  go_end0
  exact ⟨rfl, HON.out _ HG.out⟩
set_option maxRecDepth 100000 in
set_option maxHeartbeats 4000000 in
theorem step_ne (h : Runs w0 w base WB AB M R r C X) (hi : i < 4) (hn : M.n ≤ 900000000) (hp : M.pn ≤ 900000000) (b : Bool) {key : Nat} (hkey : key < 65536) (hr : R i = ⟨0, E, F⟩) :
    Calls Tryz.prog 10 #[Pq AB (5 * i), Pw WB, .bool false, .int .u32 (key : Int)] w fun e w' => e = .returned (.tuple #[]) ∧ SStep w0 w' base WB AB M := by
  have hins := inside_any h hi
  have hbel := fun W (hb : Below w.heap.size w W) => h.new hb
  rw [show (R i).inn = false from by unfold Rn.inn; rw [hr]; rfl, show (R i).ad = 0 from by unfold Rn.ad; rw [hr]; rfl] at hins
  have HI := Lib.hid hins; have HBL := Lib.hid hbel
  clear hins hbel
  have HR := Lib.hid (And.intro hi (And.intro hr (And.intro hn (And.intro hp hkey))))
  have HH := Lib.hid h
  have hnw : ∀ W, Calls Tryz.prog 14 #[.int .i64 (i : Int), .int .u32 (key : Int)] W fun e w' => ∃ v, e = .returned v ∧ NewE W w' false i key v := fun W => new_enter i key (by omega) (by omega) W
  have HNW := Lib.hid hnw
  clear hr hn hp hkey hnw
  go_enter Tryz.func10, Tryz.ntmps10
  go_upto_region 1 with (go_at_call 8; refine HI.out.mono ?_; rintro e w1 ⟨rfl, hb1⟩; have HB1 := Lib.hid hb1; clear hb1)
  have h1 := HBL.out _ HB1.out
  obtain ⟨ra, ⟨kk, rb, _⟩, rc⟩ := h1.at_ i hi
  obtain ⟨d2, d3, d4⟩ : C (5 * i + 2) = nl ∧ C (5 * i + 3) = nl ∧ C (5 * i + 4) = nl := by
    rw [HR.out.2.1] at rc
    rcases rc with ⟨_, c2, c3, c4⟩ | ⟨c1, _⟩ | ⟨c1, _⟩ | ⟨c1, _⟩
    · exact ⟨c2, c3, c4⟩
    · cases c1
    · cases c1
    · cases c1
  have x0 := h1.rw'.c (by omega) ra
  have x2 := h1.rw'.c (by omega) d2
  have x3 := h1.rw'.c (by omega) d3
  have x4 := h1.rw'.c (by omega) d4
  have HD := Lib.hid (And.intro ra (And.intro d2 (And.intro d3 d4)))
  have H1 := Lib.hid h1
  clear h1 ra rb rc d2 d3 d4
  go_upto_region 8 with fail
  have f1 : w1.frozen? ⟨AB, 5 * i + 1, none⟩ = false := H1.out.rw'.at.froz
  have x1 := H1.out.rw'.at.cell (i := 5 * i + 1) (by omega)
  have G2 := Lib.hid (H1.out.rw'.put (m := 5 * i + 1) (by omega) (.int .u32 (key : Int)))
  go_upto_region 9 with fail
  obtain ⟨w2, hw2⟩ : ∃ w2, w2 = w1.setCell ⟨AB, 5 * i + 1, none⟩ (.int .u32 (key : Int)) := ⟨_, rfl⟩
  rw [← hw2] at G2 ⊢
  have y0 : w2.cell? ⟨AB, 5 * i, none⟩ = some (.int .i64 (i : Int)) := G2.out.c (by omega) ((updC_else (by omega)).trans HD.out.1)
  clear hw2 x0 x1 x2 x3 x4 f1
  have hent : ∀ W v, NewE w2 W false i key v → ∃ Z : Wb, v = Pw Z.B ∧ Pg w0 W base WB M ((r.set 0 (runP AB (updC C (5 * i + 1) (.int .u32 (key : Int))))).set (1 + 2 * i) (wayP false i key 0 Z)) X ∧ WayIn ((r.set 0 (runP AB (updC C (5 * i + 1) (.int .u32 (key : Int))))).set (1 + 2 * i) (wayP false i key 0 Z)) (1 + 2 * i) (2 + 2 * i) (en0 i key) Z := fun W v hn => Pg.enterAt (E := en0 i key) G2.out.pg hn (by rw [G2.out.len]; omega) rfl rfl rfl rfl rfl
  have HENT := Lib.hid hent
  have hlt : AB < w2.heap.size := G2.out.ab
  have hx2 := G2.out.at.cell (i := 5 * i + 2) (by omega)
  have hf3 : ∀ W v, NewE w2 W false i key v → W.cell? ⟨AB, 5 * i + 2, none⟩ = some (updC C (5 * i + 1) (.int .u32 (key : Int)) (5 * i + 2)) ∧ W.frozen? ⟨AB, 5 * i + 2, none⟩ = false := fun W v ⟨Z, _, _, hb, _⟩ => ⟨(hb.cell (p := ⟨AB, 5 * i + 2, none⟩) hlt).trans hx2, (G2.out.new hb).at.froz⟩
  have HF3 := Lib.hid hf3
  clear hent hf3 hx2
  go_upto_region 11 with (go_at_call 14; refine (HNW.out _).mono ?_; rintro e w3 ⟨v, rfl, hnv⟩; (obtain ⟨Z1, rfl, hZ1⟩ := HENT.out _ _ hnv); have x3' := (HF3.out _ _ hnv).1; have f3' := (HF3.out _ _ hnv).2; have HZ := Lib.hid hZ1; clear hnv hZ1)
  obtain ⟨w4, hw4⟩ : ∃ w4, w4 = w3.setCell ⟨AB, 5 * i + 2, none⟩ (Pw Z1.B) := ⟨_, rfl⟩
  have hlen := H1.out.rw'.len
  have g2 : Rw w0 w3 base WB AB M ((r.set 0 (runP AB (updC C (5 * i + 1) (.int .u32 (key : Int))))).set (1 + 2 * i) (wayP false i key 0 Z1)) (updC C (5 * i + 1) (.int .u32 (key : Int))) X := ⟨HZ.out.1, by rw [List.length_set]; exact G2.out.len, (List.getElem?_set_ne (by omega)).trans G2.out.p0⟩
  have g3 := g2.put (m := 5 * i + 2) (by omega) (Pw Z1.B)
  rw [← hw4] at g3 ⊢
  obtain ⟨hi, hr, hn, hp, hkey⟩ := HR.out
  obtain ⟨r1, C1, h1, hC1, hW1⟩ : ∃ r1 C1, Runs w0 w4 base WB AB M (updR R i ⟨1, en0 i key, F⟩) r1 C1 X ∧ (C1 (5 * i + 3) = nl ∧ C1 (5 * i + 4) = nl ∧ C1 (5 * i + 2) = Pw Z1.B) ∧ WayIn r1 (1 + 2 * i) (2 + 2 * i) (en0 i key) Z1 := by
    have hW := HZ.out.2.keep (r' := ((r.set 0 (runP AB (updC C (5 * i + 1) (.int .u32 (key : Int))))).set (1 + 2 * i) (wayP false i key 0 Z1)).set 0 (runP AB (updC (updC C (5 * i + 1) (.int .u32 (key : Int))) (5 * i + 2) (Pw Z1.B)))) (List.getElem?_set_ne (by omega)) (List.getElem?_set_ne (by omega))
    have k3 : updC (updC C (5 * i + 1) (.int .u32 (key : Int))) (5 * i + 2) (Pw Z1.B) (5 * i + 3) = nl := (updC_else (by omega)).trans ((updC_else (by omega)).trans HD.out.2.2.1)
    have k4 : updC (updC C (5 * i + 1) (.int .u32 (key : Int))) (5 * i + 2) (Pw Z1.B) (5 * i + 4) = nl := (updC_else (by omega)).trans ((updC_else (by omega)).trans HD.out.2.2.2)
    have hb := HH.out.inv.begin hi (E := en0 i key) (F := F) rfl hkey (.inl ⟨rfl, rfl⟩)
    exact ⟨_, _, HH.out.turn hi g3 ⟨(updC_else (by omega)).trans ((updC_else (by omega)).trans HD.out.1), ⟨key, (updC_else (by omega)).trans (updC_same _ _ _), fun _ _ => rfl⟩, .inr (.inl ⟨rfl, rfl, k3, k4, Z1, updC_same _ _ _, hW⟩)⟩ hb (fun _ => ok_en (by omega) (by omega)) (fun e => by cases e) rfl (fun k e1 e2 e3 => by rw [List.getElem?_set_ne (Ne.symm e1), List.getElem?_set_ne (Ne.symm e2), List.getElem?_set_ne (Ne.symm e1)]) (fun m hm => by rw [updC_else (by omega), updC_else (by omega)]), ⟨k3, k4, updC_same _ _ _⟩, hW⟩
  have hr1 : updR R i ⟨1, en0 i key, F⟩ i = ⟨1, en0 i key, F⟩ := updR_same _ _ _
  have h10 : (en0 i key).ln ≠ 0 := by show 2 ≠ 0; omega
  have ho1 : (en0 i key).ow = false := rfl
  generalize en0 i key = E1 at *
  clear g2 g3 hw4 y0 x3' f3'
  have y2 := h1.rw'.c (by omega) hC1.2.2
  have y4 := h1.rw'.c (by omega) hC1.2.1
  have y3 := h1.rw'.c (by omega) hC1.1
  have hok1 : EnOk E1 := by have := h1.eok i hi (by rw [hr1]); rwa [hr1] at this
  have hst := estep_any (hW1.ew h1.rw'.pg (by omega) (by rw [h1.rw'.len]; omega)) hok1 h1.ms (by omega) (by omega)
  have hon := fun W (g : EStep w0 W base WB M r1 (1 + 2 * i) (2 + 2 * i) E1 Z1) => way_on h1 hi hr1 h10 hW1 g (.inl ⟨ho1, hC1.1, hC1.2.1, hC1.2.2⟩)
  generalize decide ((enE M E1).ln = 0) = bb at hst
  have HST := Lib.hid hst; have HON := Lib.hid hon
  clear hst hon hok1
  clear h1 h hr1 hr hn hp hi h10 ho1 hW1 hC1 hkey
  go_wp2_with (go_at_call 30; refine HST.out.mono ?_; rintro e w2 ⟨rfl, hg⟩; have HG := Lib.hid hg; clear hg)
  go_end0
  exact ⟨rfl, HON.out _ HG.out⟩
end
end Go.Proofs.YthafnphpcdbnlaaGreat.S15
