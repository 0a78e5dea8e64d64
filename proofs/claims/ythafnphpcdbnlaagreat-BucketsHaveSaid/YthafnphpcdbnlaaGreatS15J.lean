/- An Enter, or an Own, that runs alone. -/
import Derived.Test.YthafnphpcdbnlaaGreatS15I
import Derived.LoopTactic
import Derived.Deep.LoopGhost
set_option linter.unusedVariables false
set_option linter.unusedSimpArgs false
namespace Go.Proofs.YthafnphpcdbnlaaGreat.S15
open Go.Proofs.YthafnphpcdbnlaaGreat Go.Proofs.YthafnphpcdbnlaaGreat.S11 Go.Proofs.YthafnphpcdbnlaaGreat.S12 Go.Proofs.YthafnphpcdbnlaaGreat.S13 Go.Proofs.YthafnphpcdbnlaaGreat.S14
open Go.RowKit

theorem m_estep (a : Addr) (w : World) : (method 324 31 (.pointer (some a)) "Step").run Tryz.prog w = .ok (30, .pointer (some a)) w := by kernel_rfl
theorem m_ostep (a : Addr) (w : World) : (method 324 32 (.pointer (some a)) "Step").run Tryz.prog w = .ok (29, .pointer (some a)) w := by kernel_rfl
theorem at_over {E : En} (ok : EnOk E) : decide ((nPart E.ow : Int) ≤ (E.at : Int)) = decide (E.ln = 0) := by
  obtain ⟨o, ln, t, kw, tw, K, F⟩ := E
  have hln : ln ≤ 6 := ok.ln
  have hen := ok.en
  cases o
  · have h1 : ln ≠ 1 := (hen rfl).1
    have h5 : ln ≠ 5 := (hen rfl).2
    rcases (show ln = 0 ∨ ln = 2 ∨ ln = 3 ∨ ln = 4 ∨ ln = 6 from by omega) with rfl | rfl | rfl | rfl | rfl <;> rfl
  · rcases (show ln = 0 ∨ ln = 1 ∨ ln = 2 ∨ ln = 3 ∨ ln = 4 ∨ ln = 5 ∨ ln = 6 from by omega) with rfl | rfl | rfl | rfl | rfl | rfl | rfl <;> rfl
section
variable {w0 w w' : World} {base WB : Nat} {M : Sd} {r : List Part} {j u U : Nat} {E : En} {Z : Wb} {X : Wm}
theorem Ew.eover (h : Ew w0 w base WB M r j u E Z X) (ok : EnOk E) : Calls Tryz.prog 26 #[Pw Z.B] w fun e w' => e = .returned (.bool (decide (E.ln = 0))) ∧ Below w.heap.size w w' := by
  have := eover_any h.wy
  rwa [h.i, at_over ok] at this
theorem Ew.oover (h : Ew w0 w base WB M r j u E Z X) (ok : EnOk E) : Calls Tryz.prog 24 #[Pw Z.B] w fun e w' => e = .returned (.bool (decide (E.ln = 0))) ∧ Below w.heap.size w w' := by
  have := oover_any h.wy
  rwa [h.i, at_over ok] at this
theorem over_same {E : En} {M : Sd} (h : E.ln = 0) : enM M E = M ∧ enE M E = E := by
  unfold enM enE
  rw [h]
  exact ⟨rfl, rfl⟩
set_option maxRecDepth 100000 in
set_option maxHeartbeats 4000000 in
/-- A step of an Enter. -/
theorem estep_any (h : Ew w0 w base WB M r j u E Z X) (ok : EnOk E) (ms : 0 ≤ M.sp ∧ M.sp ≤ 16) (hn : M.n ≤ 1000000000) (hp : M.pn ≤ 1000000000) :
    Calls Tryz.prog 30 #[Pw Z.B, Pw WB] w fun e w' => e = .returned (.bool (decide ((enE M E).ln = 0))) ∧ EStep w0 w' base WB M r j u E Z := by
  by_cases h0 : E.ln = 0
  · obtain ⟨e1, e2⟩ := over_same (M := M) h0
    have hov := fun (W : World) (hb : Below w.heap.size w W) => (h.new hb).eover ok
    rw [decide_eq_true h0] at hov
    obtain ⟨q0, hq0⟩ := same_at h.hu
    have hfin : ∀ W, Below w.heap.size w W → EStep w0 W base WB M r j u E Z := fun W hb => by
      refine ⟨q0, Z, X, rfl, rfl, rfl, rfl, ?_⟩
      rw [e1, e2, hq0]
      exact h.new hb
    have hd : decide ((enE M E).ln = 0) = true := by rw [e2]; exact decide_eq_true h0
    rw [hd]
    have HOV := Lib.hid hov; have HF := Lib.hid hfin
    clear h ok ms hn hp h0 e1 e2 hov hq0 hfin hd
    go_enter Tryz.func30, Tryz.ntmps30
    go_upto_region 3 with (go_at_call 26; refine (HOV.out _ (Below.refl _ _)).mono ?_; rintro e w2 ⟨rfl, hb2⟩)
    have HB2 := Lib.hid hb2
    clear hb2
    go_wp2_with (go_at_call 26; refine (HOV.out _ HB2.out).mono ?_; rintro e w3 ⟨rfl, hb3⟩; have HB3 := Lib.hid hb3; clear hb3)
    go_ret
    exact ⟨rfl, HF.out _ (HB2.out.trans (HB3.out.mono HB2.out.size))⟩
  · have hov := h.eover ok
    rw [decide_eq_false h0] at hov
    have hst := fun (W : World) (hb : Below w.heap.size w W) => way_step (h.new hb) ok ms hn hp h0
    have hov2 : ∀ W, EStep w0 W base WB M r j u E Z → Calls Tryz.prog 26 #[Pw Z.B] W fun e w' => e = .returned (.bool (decide ((enE M E).ln = 0))) ∧ EStep w0 w' base WB M r j u E Z := fun W ⟨q, Z', X', e1, e2, e3, e4, h'⟩ => by
      have := h'.eover (ok.step ms h.look (fun k => pg_le h.wy.pg k))
      rw [e1] at this
      refine this.mono ?_
      rintro e w' ⟨rfl, hb⟩
      exact ⟨rfl, q, Z', X', e1, e2, e3, e4, h'.new hb⟩
    have HOV := Lib.hid hov; have HST := Lib.hid hst; have HOV2 := Lib.hid hov2
    clear h ok ms hn hp h0 hov hst hov2
    generalize decide ((enE M E).ln = 0) = b at *
    go_enter Tryz.func30, Tryz.ntmps30
    go_upto_region 2 with (go_at_call 26; refine HOV.out.mono ?_; rintro e w2 ⟨rfl, hb2⟩; have HB2 := Lib.hid hb2; clear hb2)
    go_upto_region 3 with (go_at_call 47; refine (HST.out _ HB2.out).mono ?_; rintro e w3 ⟨rfl, hs⟩; have HS := Lib.hid hs; clear hs)
    go_wp2_with (go_at_call 26; refine (HOV2.out _ HS.out).mono ?_; rintro e w4 ⟨rfl, hs⟩; have HS4 := Lib.hid hs; clear hs)
    go_ret
    exact ⟨rfl, HS4.out⟩
set_option maxRecDepth 100000 in
set_option maxHeartbeats 4000000 in
/-- A step of an Own. -/
theorem ostep_any (h : Ew w0 w base WB M r j u E Z X) (ok : EnOk E) (ms : 0 ≤ M.sp ∧ M.sp ≤ 16) (hn : M.n ≤ 1000000000) (hp : M.pn ≤ 1000000000) :
    Calls Tryz.prog 29 #[Pw Z.B, Pw WB] w fun e w' => e = .returned (.bool (decide ((enE M E).ln = 0))) ∧ EStep w0 w' base WB M r j u E Z := by
  by_cases h0 : E.ln = 0
  · obtain ⟨e1, e2⟩ := over_same (M := M) h0
    have hov := fun (W : World) (hb : Below w.heap.size w W) => (h.new hb).oover ok
    rw [decide_eq_true h0] at hov
    obtain ⟨q0, hq0⟩ := same_at h.hu
    have hfin : ∀ W, Below w.heap.size w W → EStep w0 W base WB M r j u E Z := fun W hb => by
      refine ⟨q0, Z, X, rfl, rfl, rfl, rfl, ?_⟩
      rw [e1, e2, hq0]
      exact h.new hb
    have hd : decide ((enE M E).ln = 0) = true := by rw [e2]; exact decide_eq_true h0
    rw [hd]
    have HOV := Lib.hid hov; have HF := Lib.hid hfin
    clear h ok ms hn hp h0 e1 e2 hov hq0 hfin hd
    go_enter Tryz.func29, Tryz.ntmps29
    go_upto_region 3 with (go_at_call 24; refine (HOV.out _ (Below.refl _ _)).mono ?_; rintro e w2 ⟨rfl, hb2⟩)
    have HB2 := Lib.hid hb2
    clear hb2
    go_wp2_with (go_at_call 24; refine (HOV.out _ HB2.out).mono ?_; rintro e w3 ⟨rfl, hb3⟩; have HB3 := Lib.hid hb3; clear hb3)
    go_ret
    exact ⟨rfl, HF.out _ (HB2.out.trans (HB3.out.mono HB2.out.size))⟩
  · have hov := h.oover ok
    rw [decide_eq_false h0] at hov
    have hst := fun (W : World) (hb : Below w.heap.size w W) => way_step (h.new hb) ok ms hn hp h0
    have hov2 : ∀ W, EStep w0 W base WB M r j u E Z → Calls Tryz.prog 24 #[Pw Z.B] W fun e w' => e = .returned (.bool (decide ((enE M E).ln = 0))) ∧ EStep w0 w' base WB M r j u E Z := fun W ⟨q, Z', X', e1, e2, e3, e4, h'⟩ => by
      have := h'.oover (ok.step ms h.look (fun k => pg_le h.wy.pg k))
      rw [e1] at this
      refine this.mono ?_
      rintro e w' ⟨rfl, hb⟩
      exact ⟨rfl, q, Z', X', e1, e2, e3, e4, h'.new hb⟩
    have HOV := Lib.hid hov; have HST := Lib.hid hst; have HOV2 := Lib.hid hov2
    clear h ok ms hn hp h0 hov hst hov2
    generalize decide ((enE M E).ln = 0) = b at *
    go_enter Tryz.func29, Tryz.ntmps29
    go_upto_region 2 with (go_at_call 24; refine HOV.out.mono ?_; rintro e w2 ⟨rfl, hb2⟩; have HB2 := Lib.hid hb2; clear hb2)
    go_upto_region 3 with (go_at_call 47; refine (HST.out _ HB2.out).mono ?_; rintro e w3 ⟨rfl, hs⟩; have HS := Lib.hid hs; clear hs)
    go_wp2_with (go_at_call 24; refine (HOV2.out _ HS.out).mono ?_; rintro e w4 ⟨rfl, hs⟩; have HS4 := Lib.hid hs; clear hs)
    go_ret
    exact ⟨rfl, HS4.out⟩
/-- Steps, one behind the other. -/
def eit (p : Sd × En) : Sd × En := (enM p.1 p.2, enE p.1 p.2)
def eitn (p : Sd × En) : Nat → Sd × En
  | 0 => p
  | n + 1 => eit (eitn p n)
theorem stepM_n (M : Sd) (K : Lk) : (stepM M K).n ≤ M.n + 1 ∧ (stepM M K).pn ≤ M.pn + 1 ∧ (stepM M K).sp = M.sp := by
  unfold stepM
  split <;> simp [Sd.acc, Sd.link, Sd.prep, Sd.park, Sd.call]
theorem fstepM_sp (M : Sd) (K : Fr) : (fstepM M K).sp = M.sp := by
  unfold fstepM
  split <;> (try split) <;> simp [Sd.acc, Sd.link, Sd.unpark, Sd.call]
theorem enM_n (M : Sd) (E : En) : (enM M E).n ≤ M.n + 1 ∧ (enM M E).pn ≤ M.pn + 1 ∧ (enM M E).sp = M.sp := by
  unfold enM
  split
  · exact ⟨Nat.le_refl _, Nat.le_succ _, rfl⟩
  · exact ⟨Nat.le_refl _, Nat.le_succ _, rfl⟩
  · exact stepM_n M E.K
  · exact ⟨Nat.le_refl _, Nat.le_succ _, rfl⟩
  · exact ⟨Nat.le_refl _, Nat.le_succ _, rfl⟩
  · have := fstepM_n M E.F; exact ⟨this.1, this.2, fstepM_sp M E.F⟩
  · exact ⟨Nat.le_succ _, Nat.le_succ _, rfl⟩
theorem enE_ow (M : Sd) (E : En) : (enE M E).ow = E.ow ∧ (enE M E).t = E.t := by
  unfold enE
  split <;> (try split) <;> exact ⟨rfl, rfl⟩
theorem eitn_n (p : Sd × En) : ∀ n, (eitn p n).1.n ≤ p.1.n + n ∧ (eitn p n).1.pn ≤ p.1.pn + n ∧ (eitn p n).1.sp = p.1.sp ∧ (eitn p n).2.ow = p.2.ow
  | 0 => ⟨Nat.le_refl _, Nat.le_refl _, rfl, rfl⟩
  | n + 1 => by
    have h := eitn_n p n
    have g := enM_n (eitn p n).1 (eitn p n).2
    have g2 := enE_ow (eitn p n).1 (eitn p n).2
    exact ⟨by show (enM _ _).n ≤ _; omega, by show (enM _ _).pn ≤ _; omega, g.2.2.trans h.2.2.1, g2.1.trans h.2.2.2⟩
set_option maxRecDepth 100000 in
set_option maxHeartbeats 4000000 in
/-- One that runs alone. -/
theorem run_e (h : Ew w0 w base WB M r j u E Z X) (ok : EnOk E) (ms : 0 ≤ M.sp ∧ M.sp ≤ 16) (n most : Nat) (hn0 : 0 < n) (hnm : n ≤ most) (hm : most ≤ 100) (hMn : M.n ≤ 900000000) (hMp : M.pn ≤ 900000000)
    (hpos : ∀ i, i < n → (eitn (M, E) i).2.ln ≠ 0) (hend : (eitn (M, E) n).2.ln = 0) :
    Calls Tryz.prog 15 #[Pw WB, .iface 31 (Pw Z.B), .int .i64 (most : Int)] w fun e w' => e = .returned (.int .i64 (n : Int)) ∧ ∃ q Z' X', Z'.B = Z.B ∧ Ew w0 w' base WB (eitn (M, E) n).1 (r.set u q) j u (eitn (M, E) n).2 Z' X' := by
  have hm1 := m_estep ⟨Z.B, 0, none⟩
  have hstep : ∀ (M' : Sd) (E' : En) (r' : List Part) (Z' : Wb) (X' : Wm) (W : World), Z'.B = Z.B → Ew w0 W base WB M' r' j u E' Z' X' → EnOk E' → (0 ≤ M'.sp ∧ M'.sp ≤ 16) → M'.n ≤ 1000000000 → M'.pn ≤ 1000000000 →
      Calls Tryz.prog 30 #[Pw Z.B, Pw WB] W fun e w' => e = .returned (.bool (decide ((enE M' E').ln = 0))) ∧ EStep w0 w' base WB M' r' j u E' Z' := fun M' E' r' Z' X' W eB h' ok' ms' n1 n2 => by
    rw [← eB]
    exact estep_any h' ok' ms' n1 n2
  have HST := Lib.hid hstep
  have H := Lib.hid (And.intro h ok); have HP := Lib.hid (And.intro hpos hend); have HB := Lib.hid (And.intro hn0 (And.intro hnm (And.intro hm (And.intro hMn (And.intro hMp ms)))))
  clear h ok hpos hend hn0 hnm hm hMn hMp ms hstep
  go_enter Tryz.func15, Tryz.ntmps15
  go_wp2_with fail
  go_loopg [7] n (fun q s7 wx => ∃ i : Nat, i < n ∧ q = n - i ∧ s7 = .int .i64 ((i + 1 : Nat) : Int) ∧ EnOk (eitn (M, E) i).2 ∧ ∃ q Z' X', Z'.B = Z.B ∧ Ew w0 wx base WB (eitn (M, E) i).1 (r.set u q) j u (eitn (M, E) i).2 Z' X')
  case atStart =>
    obtain ⟨q0, hq0⟩ := same_at H.out.1.hu
    refine ⟨0, HB.out.1, by omega, rfl, H.out.2, q0, Z, X, rfl, ?_⟩
    rw [hq0]; exact H.out.1
  case round =>
    obtain ⟨i, hi, rfl, rfl, hok, q, Z', X2, hzb, hw⟩ := hrel
    have hb := eitn_n (M, E) i
    have hsp : 0 ≤ (eitn (M, E) i).1.sp ∧ (eitn (M, E) i).1.sp ≤ 16 := by rw [hb.2.2.1]; exact HB.out.2.2.2.2.2
    have hst := HST.out _ _ _ _ _ _ hzb hw hok hsp (by have := HB.out; have h1 : (M, E).1.n = M.n := rfl; omega) (by have := HB.out; have h1 : (M, E).1.pn = M.pn := rfl; omega)
    have hok2 := hok.step hsp hw.look (fun k => pg_le hw.wy.pg k)
    have hle : ((i + 1 : Nat) : Int) ≤ (most : Int) := by have := HB.out; omega
    have d1 : decide (((i + 1 : Nat) : Int) ≤ (most : Int)) = true := decide_eq_true hle
    have hfin : ∀ W, EStep w0 W base WB (eitn (M, E) i).1 (r.set u q) j u (eitn (M, E) i).2 Z' → ∃ q Z' X', Z'.B = Z.B ∧ Ew w0 W base WB (eitn (M, E) (i + 1)).1 (r.set u q) j u (eitn (M, E) (i + 1)).2 Z' X' := fun W ⟨q2, Z2, X3, e1, _, _, _, h3⟩ => by
      rw [List.set_set] at h3
      exact ⟨q2, Z2, X3, e1.trans hzb, h3⟩
    have HF := Lib.hid hfin
    have HOK2 := Lib.hid hok2; have HI := Lib.hid hi
    by_cases he : i + 1 = n
    · have e0 : (enE (eitn (M, E) i).1 (eitn (M, E) i).2).ln = 0 := by
        have := HP.out.2
        rw [← he] at this
        exact this
      rw [decide_eq_true e0] at hst
      have HST2 := Lib.hid hst; have HE := Lib.hid he
      clear hst hw hok hok2 hb e0 he hi hsp hfin hzb
      go_wp2_with (go_at_call 30; refine HST2.out.mono ?_; rintro e w6 ⟨rfl, hs⟩)
      go_ret
      refine ⟨by rw [← HE.out]; simp, ?_⟩
      have := HF.out _ hs
      rw [HE.out] at this
      exact this
    · have e0 : ¬ (enE (eitn (M, E) i).1 (eitn (M, E) i).2).ln = 0 := HP.out.1 (i + 1) (by have := HI.out; omega)
      rw [decide_eq_false e0] at hst
      have HST2 := Lib.hid hst; have HE := Lib.hid he
      have hm9 : i + 1 ≤ 100 := by have := HB.out; omega
      clear hst hw hok hok2 hb e0 he hi hsp hfin hzb
      go_wp2_with (go_at_call 30; refine HST2.out.mono ?_; rintro e w6 ⟨rfl, hs⟩)
      go_roundg (n - (i + 1))
      case measure => have := HI.out; omega
      case rel => exact ⟨i + 1, by have := HI.out; have := HE.out; omega, rfl, by go_num, HOK2.out, HF.out _ hs⟩
set_option maxRecDepth 100000 in
set_option maxHeartbeats 4000000 in
/-- One that runs alone. -/
theorem run_o (h : Ew w0 w base WB M r j u E Z X) (ok : EnOk E) (ms : 0 ≤ M.sp ∧ M.sp ≤ 16) (n most : Nat) (hn0 : 0 < n) (hnm : n ≤ most) (hm : most ≤ 100) (hMn : M.n ≤ 900000000) (hMp : M.pn ≤ 900000000)
    (hpos : ∀ i, i < n → (eitn (M, E) i).2.ln ≠ 0) (hend : (eitn (M, E) n).2.ln = 0) :
    Calls Tryz.prog 15 #[Pw WB, .iface 32 (Pw Z.B), .int .i64 (most : Int)] w fun e w' => e = .returned (.int .i64 (n : Int)) ∧ ∃ q Z' X', Z'.B = Z.B ∧ Ew w0 w' base WB (eitn (M, E) n).1 (r.set u q) j u (eitn (M, E) n).2 Z' X' := by
  have hm1 := m_ostep ⟨Z.B, 0, none⟩
  have hstep : ∀ (M' : Sd) (E' : En) (r' : List Part) (Z' : Wb) (X' : Wm) (W : World), Z'.B = Z.B → Ew w0 W base WB M' r' j u E' Z' X' → EnOk E' → (0 ≤ M'.sp ∧ M'.sp ≤ 16) → M'.n ≤ 1000000000 → M'.pn ≤ 1000000000 →
      Calls Tryz.prog 29 #[Pw Z.B, Pw WB] W fun e w' => e = .returned (.bool (decide ((enE M' E').ln = 0))) ∧ EStep w0 w' base WB M' r' j u E' Z' := fun M' E' r' Z' X' W eB h' ok' ms' n1 n2 => by
    rw [← eB]
    exact ostep_any h' ok' ms' n1 n2
  have HST := Lib.hid hstep
  have H := Lib.hid (And.intro h ok); have HP := Lib.hid (And.intro hpos hend); have HB := Lib.hid (And.intro hn0 (And.intro hnm (And.intro hm (And.intro hMn (And.intro hMp ms)))))
  clear h ok hpos hend hn0 hnm hm hMn hMp ms hstep
  go_enter Tryz.func15, Tryz.ntmps15
  go_wp2_with fail
  go_loopg [7] n (fun q s7 wx => ∃ i : Nat, i < n ∧ q = n - i ∧ s7 = .int .i64 ((i + 1 : Nat) : Int) ∧ EnOk (eitn (M, E) i).2 ∧ ∃ q Z' X', Z'.B = Z.B ∧ Ew w0 wx base WB (eitn (M, E) i).1 (r.set u q) j u (eitn (M, E) i).2 Z' X')
  case atStart =>
    obtain ⟨q0, hq0⟩ := same_at H.out.1.hu
    refine ⟨0, HB.out.1, by omega, rfl, H.out.2, q0, Z, X, rfl, ?_⟩
    rw [hq0]; exact H.out.1
  case round =>
    obtain ⟨i, hi, rfl, rfl, hok, q, Z', X2, hzb, hw⟩ := hrel
    have hb := eitn_n (M, E) i
    have hsp : 0 ≤ (eitn (M, E) i).1.sp ∧ (eitn (M, E) i).1.sp ≤ 16 := by rw [hb.2.2.1]; exact HB.out.2.2.2.2.2
    have hst := HST.out _ _ _ _ _ _ hzb hw hok hsp (by have := HB.out; have h1 : (M, E).1.n = M.n := rfl; omega) (by have := HB.out; have h1 : (M, E).1.pn = M.pn := rfl; omega)
    have hok2 := hok.step hsp hw.look (fun k => pg_le hw.wy.pg k)
    have hle : ((i + 1 : Nat) : Int) ≤ (most : Int) := by have := HB.out; omega
    have d1 : decide (((i + 1 : Nat) : Int) ≤ (most : Int)) = true := decide_eq_true hle
    have hfin : ∀ W, EStep w0 W base WB (eitn (M, E) i).1 (r.set u q) j u (eitn (M, E) i).2 Z' → ∃ q Z' X', Z'.B = Z.B ∧ Ew w0 W base WB (eitn (M, E) (i + 1)).1 (r.set u q) j u (eitn (M, E) (i + 1)).2 Z' X' := fun W ⟨q2, Z2, X3, e1, _, _, _, h3⟩ => by
      rw [List.set_set] at h3
      exact ⟨q2, Z2, X3, e1.trans hzb, h3⟩
    have HF := Lib.hid hfin
    have HOK2 := Lib.hid hok2; have HI := Lib.hid hi
    by_cases he : i + 1 = n
    · have e0 : (enE (eitn (M, E) i).1 (eitn (M, E) i).2).ln = 0 := by
        have := HP.out.2
        rw [← he] at this
        exact this
      rw [decide_eq_true e0] at hst
      have HST2 := Lib.hid hst; have HE := Lib.hid he
      clear hst hw hok hok2 hb e0 he hi hsp hfin hzb
      go_wp2_with (go_at_call 29; refine HST2.out.mono ?_; rintro e w6 ⟨rfl, hs⟩)
      go_ret
      refine ⟨by rw [← HE.out]; simp, ?_⟩
      have := HF.out _ hs
      rw [HE.out] at this
      exact this
    · have e0 : ¬ (enE (eitn (M, E) i).1 (eitn (M, E) i).2).ln = 0 := HP.out.1 (i + 1) (by have := HI.out; omega)
      rw [decide_eq_false e0] at hst
      have HST2 := Lib.hid hst; have HE := Lib.hid he
      have hm9 : i + 1 ≤ 100 := by have := HB.out; omega
      clear hst hw hok hok2 hb e0 he hi hsp hfin hzb
      go_wp2_with (go_at_call 29; refine HST2.out.mono ?_; rintro e w6 ⟨rfl, hs⟩)
      go_roundg (n - (i + 1))
      case measure => have := HI.out; omega
      case rel => exact ⟨i + 1, by have := HI.out; have := HE.out; omega, rfl, by go_num, HOK2.out, HF.out _ hs⟩
end
end Go.Proofs.YthafnphpcdbnlaaGreat.S15
