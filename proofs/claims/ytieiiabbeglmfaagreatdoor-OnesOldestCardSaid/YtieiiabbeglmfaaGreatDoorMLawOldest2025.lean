/- Texts of this seat, one behind the other. -/
import Derived.Test.YtieiiabbeglmfaaGreatDoorMLawOldest2023
import Derived.Test.YtieiiabbeglmfaaGreatDoorMLawOldest2024
set_option linter.unusedVariables false
set_option linter.unusedSimpArgs false
set_option linter.unusedVariables false
set_option linter.unusedSimpArgs false
namespace Go.Proofs.YtieiiabbeglmfaaGreatDoor.S14
set_option maxRecDepth 100000
set_option maxHeartbeats 16000000
open Go.Proofs.YtieiiabbeglmfaaGreatDoor Go.Proofs.YtieiiabbeglmfaaGreatDoor.S11 Go.Proofs.YtieiiabbeglmfaaGreatDoor.S12 Go.Proofs.YtieiiabbeglmfaaGreatDoor.S13
open Go.RowKit
structure FOk (K : Fr) : Prop where
  a : K.a < 4294967296
  w : K.w < 18446744073709551616
  con : 3 ≤ K.ln → K.ln ≤ 5 → K.l = S1.bitB K.w 0 ∧ K.q = S1.bitB K.w 1 ∧ K.h = S1.headN K.w ∧ S1.headN K.w ≠ -1
  t : 4 ≤ K.ln → 0 ≤ K.t ∧ K.t ≤ 63
  ln : K.ln ≤ 7
theorem FOk.ok {M : Sd} {K : Fr} (h : FOk K) (hn : M.n ≤ 1000000000) (hp : M.pn ≤ 1000000000) : FrOk M K := ⟨h.a, h.w, h.con, h.t, hn, hp⟩
theorem fok_new {a : Nat} (ha : a < 4294967296) : FOk (fr0 a) := ⟨ha, by show 0 < _; omega, fun h => absurd h (by show ¬ 3 ≤ 1; omega), fun h => absurd h (by show ¬ 4 ≤ 1; omega), by show 1 ≤ 7; omega⟩
theorem seekL_facts {S : S5.Lk} (h : ∀ i, S i ≤ 64) (u : Nat) : (seekL S u).2.2 = 0 ∨ ((4 ≤ (seekL S u).2.2 ∧ (seekL S u).2.2 ≤ 6) ∧ (0 ≤ (seekL S u).2.1 ∧ (seekL S u).2.1 ≤ 63) ∧ S1.headN u ≠ -1) := by
  have hle := (seekO_le h u).1
  by_cases h0 : (S5.seekO S (hdO u)).2 = 0
  · left; unfold seekL; rw [if_pos h0]
  · right
    have hh : S1.headN u ≠ -1 := by
      intro e
      apply h0
      have hn : hdO u = none := by
        unfold hdO
        unfold S1.headN at e
        split at e
        · omega
        · rename_i hu; rw [if_neg hu]
      rw [hn]; rfl
    refine ⟨?_, ?_, hh⟩
    · unfold seekL
      rw [if_neg h0]
      split
      · exact ⟨Nat.le_refl 4, by show 4 ≤ 6; omega⟩
      · split
        · exact ⟨by show 4 ≤ 5; omega, by show 5 ≤ 6; omega⟩
        · exact ⟨by show 4 ≤ 6; omega, Nat.le_refl 6⟩
    · have ht : (seekL S u).2.1 = ((S5.seekO S (hdO u)).2 : Int) - 1 := by
        unfold seekL
        rw [if_neg h0]
        split
        · rfl
        · split <;> rfl
      rw [ht]
      omega
theorem fok_look {K : Fr} (h : FOk K) {x : Nat} (hx : x < 18446744073709551616) : FOk ((K.says x).look) := by
  refine ⟨h.a, hx, fun h3 _ => ?_, fun h4 => ?_, ?_⟩
  · refine ⟨rfl, rfl, rfl, fun e => ?_⟩
    have e' : S1.headN x = -1 := e
    have hi : idle x = true := by unfold idle; rw [decide_eq_true e', Bool.or_true]
    have : ((K.says x).look).ln = 0 := by show (if idle x = true then 0 else 3) = 0; rw [if_pos hi]
    omega
  · exfalso
    have : ((K.says x).look).ln ≤ 3 := by show (if idle x = true then 0 else 3) ≤ 3; split <;> omega
    omega
  · have : ((K.says x).look).ln ≤ 3 := by show (if idle x = true then 0 else 3) ≤ 3; split <;> omega
    omega
theorem fok_seek {K : Fr} (ha : K.a < 4294967296) (hw : K.w < 18446744073709551616) (hc : K.l = S1.bitB K.w 0 ∧ K.q = S1.bitB K.w 1 ∧ K.h = S1.headN K.w) {S : S5.Lk} (hk : ∀ i, S i ≤ 64) : FOk (K.seek S) := by
  have hf := seekL_facts hk K.w
  have e1 : (K.seek S).ln = (seekL S K.w).2.2 := rfl
  have e2 : (K.seek S).t = (seekL S K.w).2.1 := rfl
  refine ⟨ha, hw, fun h3 _ => ?_, fun h4 => ?_, ?_⟩
  · rcases hf with h | ⟨_, _, h⟩
    · omega
    · exact ⟨hc.1, hc.2.1, hc.2.2, h⟩
  · rcases hf with h | ⟨_, h, _⟩
    · omega
    · rw [e2]; exact h
  · omega
theorem FOk.step {M : Sd} {K : Fr} (h : FOk K) (hl : ∀ a, S2.look M.L a < 18446744073709551616) (hk : ∀ i, M.lk i ≤ 64) : FOk (fstepK M K) := by
  have hx := hl K.a
  rcases (show K.ln = 0 ∨ K.ln = 1 ∨ K.ln = 2 ∨ K.ln = 3 ∨ K.ln = 4 ∨ K.ln = 5 ∨ K.ln = 6 ∨ K.ln = 7 by have := h.ln; omega) with e | e | e | e | e | e | e | e
  · have : fstepK M K = K := by unfold fstepK; rw [e]; rfl
    rw [this]; exact h
  · have : fstepK M K = { K with ln := if idle (S2.look M.L K.a) = true then 0 else 2, l := S1.bitB (S2.look M.L K.a) 0, q := S1.bitB (S2.look M.L K.a) 1, h := S1.headN (S2.look M.L K.a) } := by unfold fstepK; rw [e]; rfl
    rw [this]
    have h2 : (if idle (S2.look M.L K.a) = true then 0 else 2) ≤ 2 := by split <;> omega
    exact ⟨h.a, h.w, fun h3 _ => absurd h3 (by show ¬ 3 ≤ (if idle (S2.look M.L K.a) = true then 0 else 2); omega), fun h4 => absurd h4 (by show ¬ 4 ≤ (if idle (S2.look M.L K.a) = true then 0 else 2); omega), by show (if idle (S2.look M.L K.a) = true then 0 else 2) ≤ 7; omega⟩
  · have : fstepK M K = (K.says (S2.look M.L K.a)).look := by unfold fstepK; rw [e]; rfl
    rw [this]; exact fok_look h hx
  · obtain ⟨c1, c2, c3, c4⟩ := h.con (by omega) (by omega)
    by_cases hc : S2.look M.L K.a = K.w
    · have : fstepK M K = ({ K with q := true, w := wq K.w true } : Fr).seek M.lk := by unfold fstepK; rw [e]; exact if_pos hc
      rw [this]
      exact fok_seek (K := { K with q := true, w := wq K.w true }) h.a (wq_lt _ _) ⟨by rw [(wq_says K.w true).1]; exact c1, (wq_says K.w true).2.1.symm, by rw [(wq_says K.w true).2.2]; exact c3⟩ hk
    · have : fstepK M K = (K.says (S2.look M.L K.a)).look := by unfold fstepK; rw [e]; exact if_neg hc
      rw [this]; exact fok_look h hx
  · by_cases hc : S2.look M.L K.a = K.w
    · have : fstepK M K = { K with ln := 0, q := false } := by unfold fstepK; rw [e]; exact if_pos hc
      rw [this]
      exact ⟨h.a, h.w, fun h3 _ => absurd h3 (by show ¬ 3 ≤ 0; omega), fun h4 => absurd h4 (by show ¬ 4 ≤ 0; omega), by show 0 ≤ 7; omega⟩
    · have : fstepK M K = (K.says (S2.look M.L K.a)).seek M.lk := by unfold fstepK; rw [e]; exact if_neg hc
      rw [this]; exact fok_seek (K := K.says (S2.look M.L K.a)) h.a hx ⟨rfl, rfl, rfl⟩ hk
  · by_cases hc : S2.look M.L K.a = K.w
    · have : fstepK M K = { K with ln := 7, l := false, q := false, h := -1 } := by unfold fstepK; rw [e]; exact if_pos hc
      rw [this]
      exact ⟨h.a, h.w, fun _ h5 => absurd h5 (by show ¬ 7 ≤ 5; omega), fun _ => h.t (by omega), by show 7 ≤ 7; omega⟩
    · have : fstepK M K = (K.says (S2.look M.L K.a)).seek M.lk := by unfold fstepK; rw [e]; exact if_neg hc
      rw [this]; exact fok_seek (K := K.says (S2.look M.L K.a)) h.a hx ⟨rfl, rfl, rfl⟩ hk
  · have : fstepK M K = { K with ln := 7 } := by unfold fstepK; rw [e]; rfl
    rw [this]
    exact ⟨h.a, h.w, fun _ h5 => absurd h5 (by show ¬ 7 ≤ 5; omega), fun _ => h.t (by omega), by show 7 ≤ 7; omega⟩
  · have : fstepK M K = { K with ln := 0 } := by unfold fstepK; rw [e]; rfl
    rw [this]
    exact ⟨h.a, h.w, fun h3 _ => absurd h3 (by show ¬ 3 ≤ 0; omega), fun h4 => absurd h4 (by show ¬ 4 ≤ 0; omega), by show 0 ≤ 7; omega⟩
section
variable {w0 w w' : World} {base WB : Nat} {M : Sd} {r : List Part} {j B : Nat} {K : Fr} {X : Wm}
theorem beh_any (h : Wf w0 w base WB M r j B K X) (ok : FrOk M K) (h0 : K.ln ≠ 0) (h7 : K.ln ≤ 7) : Calls Tryz.prog 183 #[Pw B, Pw WB] w (Behind w0 base WB M r j B K) := by
  rcases (show K.ln = 1 ∨ K.ln = 2 ∨ K.ln = 3 ∨ K.ln = 4 ∨ K.ln = 5 ∨ K.ln = 6 ∨ K.ln = 7 by omega) with e | e | e | e | e | e | e
  · exact beh1 h ok e
  · exact beh2 h ok e
  · exact beh3 h ok e
  · exact beh4 h ok e
  · exact beh5 h ok e
  · exact beh6 h ok e
  · exact beh7 h ok e
theorem step_f (h : Wf w0 w base WB M r j B K X) (ok : FrOk M K) (h7 : K.ln ≤ 7) : Calls Tryz.prog 151 #[Pw B, Pw WB] w fun e w' => e = .returned (.bool (decide ((fstepK M K).ln = 0))) ∧ ∃ X', Wf w0 w' base WB (fstepM M K) r j B (fstepK M K) X' := by
  by_cases h0 : K.ln = 0
  · have e1 : fstepM M K = M := by unfold fstepM; rw [h0]; rfl
    have e2 : fstepK M K = K := by unfold fstepK; rw [h0]; rfl
    rw [e1, e2]
    have hov := over_f h.b0
    rw [decide_eq_true h0] at hov
    have HOV := Lib.hid hov
    have HE := Lib.hid (And.intro (decide_eq_true h0) h)
    clear hov h ok h0 h7 e1 e2
    go_enter Tryz.func151, Tryz.ntmps151
    go_upto_region 3 with (go_at_call 182; refine HOV.out.mono ?_; rintro e w2 ⟨rfl, rfl⟩)
    go_wp2_with (go_at_call 182; refine HOV.out.mono ?_; rintro e w2 ⟨rfl, rfl⟩)
    go_ret
    exact ⟨by rw [HE.out.1]; rfl, X, HE.out.2⟩
  · have hov := over_f h.b0
    rw [decide_eq_false h0] at hov
    have HOV := Lib.hid hov
    have HBH := Lib.hid (beh_any h ok h0 h7)
    clear hov h ok h0 h7
    obtain ⟨n, hn⟩ : ∃ n, n = (fstepK M K).ln := ⟨_, rfl⟩
    rw [← hn]
    have HN := Lib.hid hn
    clear hn
    go_enter Tryz.func151, Tryz.ntmps151
    go_upto_region 2 with (go_at_call 182; refine HOV.out.mono ?_; rintro e w2 ⟨rfl, rfl⟩)
    go_upto_region 3 with (go_at_call 183; refine HBH.out.mono ?_; rintro e w3 ⟨rfl, X3, h3⟩; have H3 := Lib.hid h3; have c0 := h3.b0; have f0 := h3.fz 0; clear h3)
    rw [← HN.out]
    have h4 := H3.out.line n
    generalize w3.setCell ⟨B, 0, none⟩ (.int .u8 (n : Int)) = w4 at *
    have h5 : Wf w0 w4 base WB (fstepM M K) r j B (fstepK M K) X3 := by
      have e : ({ ({ fstepK M K with ln := K.ln } : Fr) with ln := n } : Fr) = fstepK M K := by rw [HN.out]
      rw [e] at h4; exact h4
    have hov2 := over_f h5.b0
    rw [← HN.out] at hov2
    have HOV2 := Lib.hid hov2; have H5 := Lib.hid h5
    clear hov2 h4 h5 c0 f0 H3 HOV HBH
    go_wp2_with (go_at_call 182; refine HOV2.out.mono ?_; rintro e w5 ⟨rfl, rfl⟩)
    go_ret
    exact ⟨rfl, X3, H5.out⟩
end
end Go.Proofs.YtieiiabbeglmfaaGreatDoor.S14
namespace Go.Proofs.YtieiiabbeglmfaaGreatDoor.S13
set_option maxRecDepth 100000
set_option maxHeartbeats 16000000
open Go.Proofs.YtieiiabbeglmfaaGreatDoor Go.Proofs.YtieiiabbeglmfaaGreatDoor.S11 Go.Proofs.YtieiiabbeglmfaaGreatDoor.S12
open Go.RowKit
def sdN (spin : Int) (most : Nat) : Sd := ⟨L02, 0, 0, 0, 0, 0, 0, most, [], fun _ => S4.pk0, 0, 0, 0, S5.S0, S10.M0 0, [], spin, fun _ => 0⟩
theorem at0_sd {X : Wm} {spin : Int} {most : Nat} (h : At0 X spin most []) : X.sd = sdN spin most := by
  unfold Wm.sd sdN
  rw [h.L, h.n, h.k, h.a, h.was, h.is, h.T, h.most, h.D, h.pf, h.pn, h.pk, h.pp, h.lk, h.tM, h.nD, h.sp, h.tk]
theorem pg_of {w0 w : World} {base : Nat} {X : Wm} (h : PW w base X) (b : Below base w0 w) : Pg w0 w base X.wB X.sd [] X :=
  ⟨by rw [List.append_nil]; exact h, rfl, rfl, b⟩
section
variable {w0 w w' : World} {base WB : Nat} {M : Sd} {r : List Part} {X : Wm}
end
theorem world_any (sp : Nat) (hsp : sp < 256) (w : World) : Calls Tryz.prog 9 #[.int .u8 (sp : Int)] w fun e w' => ∃ X, e = .returned (Pw X.wB) ∧ PW w' w.heap.size X ∧ At0 X ((sp % 17 : Nat) : Int) 5 [] ∧ Below w.heap.size w w' := by
  have hck : ∀ W, Below w.heap.size w W → Calls Tryz.prog 84 #[.slice none 0 0, .int .u64 ((5 : Nat) : Int)] W (S3.Made W 0 5 []) := fun W _ => S3.new_any (D := []) (b2 := 0) 0 5 (Nat.le_refl _) (by omega) (by omega) S3.Rd.nil (Nat.zero_le _) (fun d hd => by cases hd)
  have hok : okC (((sp % 17 : Nat) : Int)) 0 = true := by simp [okC]; omega
  have hnew : Calls Tryz.prog 32 #[.agg #[.int .i64 ((sp % 17 : Nat) : Int), .int .u64 5, .slice none 0 0]] w fun e w' => NewW w w' ((sp % 17 : Nat) : Int) 5 [] e := new_yes _ 5 0 0 none hok hck
  have e1 : (sp : Int).tmod 17 = ((sp % 17 : Nat) : Int) := by rw [Int.tmod_eq_emod_of_nonneg (by omega)]; omega
  have e1' : (sp : Int) % 17 = ((sp % 17 : Nat) : Int) := by omega
  have e2 : IntKind.u8.wrap ((sp % 17 : Nat) : Int) = ((sp % 17 : Nat) : Int) := by rw [IntKind.wrap_u8]; omega
  have e3 : IntKind.i64.wrap ((sp % 17 : Nat) : Int) = ((sp % 17 : Nat) : Int) := by rw [IntKind.wrap_i64]; omega
  have e4 : wrap64 ((sp % 17 : Nat) : Int) = ((sp % 17 : Nat) : Int) := by unfold wrap64; omega
  have e5 : IntKind.i64.wrap (sp : Int) = (sp : Int) := by rw [IntKind.wrap_i64]; omega
  have HN := Lib.hid hnew
  clear hck hok hnew hsp
  generalize sp % 17 = n at *
  go_enter Tryz.func9, Tryz.ntmps9
  go_wp2_with (go_at_call 32; refine HN.out.mono ?_; rintro e w1 ⟨X, rfl, hp, h0, hb⟩)
  go_ret
  exact ⟨X, rfl, hp, h0, hb⟩
theorem meth_step (a : Addr) (w : World) : (method 558 444 (.pointer (some a)) "Step").run Tryz.prog w = .ok (338, .pointer (some a)) w := by kernel_rfl
end Go.Proofs.YtieiiabbeglmfaaGreatDoor.S13
namespace Go.Proofs.YtieiiabbeglmfaaGreatDoor.S14
set_option maxRecDepth 100000
set_option maxHeartbeats 16000000
open Go.Proofs.YtieiiabbeglmfaaGreatDoor Go.Proofs.YtieiiabbeglmfaaGreatDoor.S11 Go.Proofs.YtieiiabbeglmfaaGreatDoor.S12 Go.Proofs.YtieiiabbeglmfaaGreatDoor.S13
open Go.RowKit
section
variable {P : Program} {md : Region.Mode} {ops : Array Oper} {Q : Exit → Act → World → Prop} {S S' : World → Prop}
end
def fit (p : Sd × Fr) : Sd × Fr := (fstepM p.1 p.2, fstepK p.1 p.2)
def fitn (p : Sd × Fr) : Nat → Sd × Fr
  | 0 => p
  | n + 1 => fit (fitn p n)
theorem fstepM_n (M : Sd) (K : Fr) : (fstepM M K).n ≤ M.n + 1 ∧ (fstepM M K).pn ≤ M.pn + 1 := by
  unfold fstepM
  split <;> (try split) <;> simp [Sd.acc, Sd.link, Sd.unpark, Sd.call] <;> omega
theorem meth_free (a : Addr) (w : World) : (method 558 73 (.pointer (some a)) "Step").run Tryz.prog w = .ok (151, .pointer (some a)) w := by kernel_rfl
section
variable {w0 w w' : World} {base WB : Nat} {M : Sd} {r : List Part} {j B : Nat} {K : Fr} {X : Wm}
end
section
variable {M : Sd} {t : Nat}
end
section
variable {w0 w w' : World} {base WB : Nat} {M : Sd} {r : List Part} {X : Wm}
end
end Go.Proofs.YtieiiabbeglmfaaGreatDoor.S14
namespace Go.Proofs.YtieiiabbeglmfaaGreatDoor.S13
set_option maxRecDepth 100000
set_option maxHeartbeats 16000000
open Go.Proofs.YtieiiabbeglmfaaGreatDoor Go.Proofs.YtieiiabbeglmfaaGreatDoor.S11 Go.Proofs.YtieiiabbeglmfaaGreatDoor.S12
open Go.RowKit
structure LkGo (M : Sd) (K : Lk) (c : Nat) : Prop where
  ok : LkOk M K
  ln : K.ln ≤ 6
  lk : ∀ a, S2.look M.L a < 18446744073709551616
  n : M.n ≤ c
  pn : M.pn ≤ c
end Go.Proofs.YtieiiabbeglmfaaGreatDoor.S13
set_option linter.unusedVariables false
set_option linter.unusedSimpArgs false
namespace Go.Proofs.YtieiiabbeglmfaaGreatDoor.S10
set_option maxRecDepth 100000
set_option maxHeartbeats 16000000
open Go.Proofs.YtieiiabbeglmfaaGreatDoor
open Go.RowKit
def lockZ (b i : Int) : Int := if i < 0 ∨ (sizeN b : Int) ≤ i then 0 else 256 + ((sizeN b : Int) + i)
theorem lock_any (b i : Int) (w : World) : Calls Tryz.prog 180 #[.int .i64 b, .int .i64 i] w fun e w' => e = .returned (.int .u32 (lockZ b i)) ∧ w = w' := by
  have q := size_any b w
  have hn := size_le b
  unfold lockZ
  generalize sizeN b = n at *
  have Q := Lib.hid q
  clear q
  by_cases h0 : i < 0
  · rw [if_pos (Or.inl h0)]
    go_enter Tryz.func180, Tryz.ntmps180
    go_wp2_with fail
    refine Q.out.mono ?_
    rintro e w' ⟨rfl, rfl⟩
    go_wp2_with fail
    go_ret
    exact ⟨rfl, rfl⟩
  · by_cases h1 : (n : Int) ≤ i
    · rw [if_pos (Or.inr h1)]
      go_enter Tryz.func180, Tryz.ntmps180
      go_wp2_with fail
      refine Q.out.mono ?_
      rintro e w' ⟨rfl, rfl⟩
      go_wp2_with fail
      go_ret
      exact ⟨rfl, rfl⟩
    · rw [if_neg (by omega)]
      have h2 : 0 ≤ i := by omega
      have h3 : i < (n : Int) := by omega
      clear h1 h0
      go_enter Tryz.func180, Tryz.ntmps180
      go_wp2_with fail
      refine Q.out.mono ?_
      rintro e w' ⟨rfl, rfl⟩
      go_wp2_with fail
      go_ret
      exact ⟨rfl, rfl⟩
end Go.Proofs.YtieiiabbeglmfaaGreatDoor.S10
set_option linter.unusedVariables false
set_option linter.unusedSimpArgs false
namespace Go.Proofs.YtieiiabbeglmfaaGreatDoor.S15
set_option maxRecDepth 100000
set_option maxHeartbeats 16000000
open Go.Proofs.YtieiiabbeglmfaaGreatDoor Go.Proofs.YtieiiabbeglmfaaGreatDoor.S11 Go.Proofs.YtieiiabbeglmfaaGreatDoor.S12 Go.Proofs.YtieiiabbeglmfaaGreatDoor.S13 Go.Proofs.YtieiiabbeglmfaaGreatDoor.S14
open Go.RowKit
def bitsN (u : Nat) : Nat := if 2 ≤ u ∧ u ≤ 8 then u else 2
theorem bits_in (u : Nat) : 2 ≤ bitsN u ∧ bitsN u ≤ 8 := by unfold bitsN; split <;> omega
def bktN (key u : Nat) : Nat := S10.hsh key (bitsN u)
theorem bkt_lt (key u : Nat) : bktN key u < 2 ^ bitsN u := S10.hsh_lt key (bitsN u) (by have := bits_in u; omega)
theorem bkt_hash (key u : Nat) : S10.hashZ key (bitsN u : Nat) = ((bktN key u : Nat) : Int) := by
  have := bits_in u
  unfold S10.hashZ
  rw [if_pos (by omega)]; rfl
def lokN (key u : Nat) : Nat := 256 + (2 ^ bitsN u + bktN key u)
theorem size_bits (u : Nat) : S10.sizeN (bitsN u : Nat) = 2 ^ bitsN u := by
  have := bits_in u
  unfold S10.sizeN
  rw [if_pos (by omega)]; rfl
theorem lok_lock (key u : Nat) : S10.lockZ (bitsN u : Nat) (bktN key u : Nat) = ((lokN key u : Nat) : Int) := by
  have h := bkt_lt key u
  unfold S10.lockZ lokN
  rw [size_bits]
  rw [if_neg (by omega)]
  omega
theorem pow_in (u : Nat) : 4 ≤ 2 ^ bitsN u ∧ 2 ^ bitsN u ≤ 256 := by
  have h := bits_in u
  rcases (show bitsN u = 2 ∨ bitsN u = 3 ∨ bitsN u = 4 ∨ bitsN u = 5 ∨ bitsN u = 6 ∨ bitsN u = 7 ∨ bitsN u = 8 by omega) with e | e | e | e | e | e | e <;> rw [e] <;> decide
theorem lok_in (key u : Nat) : 260 ≤ lokN key u ∧ lokN key u < 768 := by
  have := bkt_lt key u
  have := pow_in u
  unfold lokN
  omega
structure En where
  ow : Bool
  ln : Nat
  t : Nat
  kw : Nat
  tw : Nat
  K : Lk
  F : Fr
def en0 (t key : Nat) : En := ⟨false, 2, t, key, 0, lk0, fr0 0⟩
def ow0 (t : Nat) : En := ⟨true, 1, t, 0, 0, lk0, fr0 0⟩
def En.a (E : En) : Nat := lokN (E.kw % 4294967296) E.tw
def enM (M : Sd) (E : En) : Sd :=
  match E.ln with
  | 1 => M.acc 1 (64 + E.t) (S2.look M.L (64 + E.t))
  | 2 => M.acc 1 0 (S2.look M.L 0)
  | 3 => stepM M E.K
  | 4 => M.acc 1 0 (S2.look M.L 0)
  | 5 => M.acc 1 (64 + E.t) (S2.look M.L (64 + E.t))
  | 6 => fstepM M E.F
  | _ => M
def enE (M : Sd) (E : En) : En :=
  match E.ln with
  | 1 => { E with kw := S2.look M.L (64 + E.t) % 4294967296, ln := 2 }
  | 2 => { E with tw := S2.look M.L 0, ln := 3, K := lk1 E.t (lokN (E.kw % 4294967296) (S2.look M.L 0)) }
  | 3 => { E with K := stepK M E.K, ln := if (stepK M E.K).ln = 0 then 4 else 3 }
  | 4 => if S2.look M.L 0 = E.tw then { E with ln := if E.ow then 5 else 0 } else { E with ln := 6, F := fr0 E.a }
  | 5 => if S2.look M.L (64 + E.t) % 4294967296 = E.kw then { E with ln := 0 } else { E with ln := 6, F := fr0 E.a }
  | 6 => { E with F := fstepK M E.F, ln := if (fstepK M E.F).ln = 0 then (if E.ow then 1 else 2) else 6 }
  | _ => E
def En.at (E : En) : Nat :=
  if E.ow then (match E.ln with | 1 => 0 | 2 => 1 | 3 => 2 | 4 => 3 | 5 => 4 | 6 => 5 | _ => 6)
  else (match E.ln with | 2 => 0 | 3 => 1 | 4 => 2 | 6 => 3 | _ => 4)
structure EnOk (E : En) : Prop where
  ln : E.ln ≤ 6
  en : E.ow = false → E.ln ≠ 1 ∧ E.ln ≠ 5
  t : E.t < 64
  kw : E.kw < 18446744073709551616
  tw : E.tw < 18446744073709551616
  k6 : E.K.ln ≤ 6
  kt : E.K.t < 64
  ka : E.K.a < 4294967296
  ks : E.K.st < 18446744073709551616
  kp : 0 ≤ E.K.sp ∧ E.K.sp ≤ 16
  f : FOk E.F
end Go.Proofs.YtieiiabbeglmfaaGreatDoor.S15
set_option linter.unusedVariables false
set_option linter.unusedSimpArgs false
namespace Go.Proofs.YtieiiabbeglmfaaGreatDoor.S15
set_option maxRecDepth 100000
set_option maxHeartbeats 16000000
open Go.Proofs.YtieiiabbeglmfaaGreatDoor Go.Proofs.YtieiiabbeglmfaaGreatDoor.S11 Go.Proofs.YtieiiabbeglmfaaGreatDoor.S12 Go.Proofs.YtieiiabbeglmfaaGreatDoor.S13 Go.Proofs.YtieiiabbeglmfaaGreatDoor.S14
open Go.RowKit
structure Wb where
  B : Nat
  PB : Nat
  KB : Nat
  TB : Nat
  i : Int
  st : Bool
  pb : Int
  pi : Int
  uv : Value
abbrev readV (B : Nat) : Value := .iface 270 (.agg #[Pw B])
abbrev askV (B : Nat) : Value := .iface 274 (.agg #[Pw B])
abbrev takeV : Value := .iface 273 (.agg #[])
abbrev leaveV : Value := .iface 275 (.agg #[])
abbrev lockU (U : Nat) : Value := .iface 444 (Pw U)
abbrev freeU (U : Nat) : Value := .iface 73 (Pw U)
def partsV (o : Bool) (KB TB : Nat) : Array Value :=
  if o then #[readV KB, readV TB, takeV, askV TB, askV KB, leaveV] else #[readV TB, takeV, askV TB, leaveV]
def nPart (o : Bool) : Nat := if o then 6 else 4
def tyE (o : Bool) : Nat := if o then 414 else 266
def wayC (o : Bool) (t : Nat) (Z : Wb) : Array Value :=
  #[.slice (some ⟨Z.PB, 0, none⟩) (nPart o) (nPart o), .int .i64 Z.i, .int .i64 (t : Int), Pw Z.KB, Pw Z.TB, .int .i64 Z.pb, .int .i64 Z.pi, .bool Z.st, Z.uv]
def wordC (a : Nat) (k : Bool) (u : Nat) : Array Value := #[.int .u32 (a : Int), .bool k, .int .u64 (u : Int)]
def kyA (o : Bool) (t : Nat) : Nat := if o then 64 + t else 0
structure WayAt (w : World) (o : Bool) (t kw tw : Nat) (Z : Wb) : Prop where
  b : w.heap[Z.B]? = some (.cells (wayC o t Z) (tyE o) (0, 0))
  p : ∃ T, w.heap[Z.PB]? = some (.cells (partsV o Z.KB Z.TB) T (0, 0))
  k : w.heap[Z.KB]? = some (.cells (wordC (kyA o t) o kw) 268 (0, 0))
  t : w.heap[Z.TB]? = some (.cells (wordC 0 false tw) 268 (0, 0))
  ne : Z.KB ≠ Z.TB
theorem heap_lt {w : World} {B : Nat} {o : Obj} (h : w.heap[B]? = some o) : B < w.heap.size := (Array.getElem?_eq_some_iff.1 h).1
def wayP (o : Bool) (t kw tw : Nat) (Z : Wb) : Part where
  ok w := WayAt w o t kw tw Z
  fp k := k = Z.B ∨ k = Z.PB ∨ k = Z.KB ∨ k = Z.TB
  lt w h k e := by
    rcases e with rfl | rfl | rfl | rfl
    · exact heap_lt h.b
    · obtain ⟨T, hp⟩ := h.p; exact heap_lt hp
    · exact heap_lt h.k
    · exact heap_lt h.t
  kept S w w' h t hs := by
    obtain ⟨T, hp⟩ := h.p
    exact ⟨(t.block _ (heap_lt h.b) (hs _ (.inl rfl))).trans h.b, ⟨T, (t.block _ (heap_lt hp) (hs _ (.inr (.inl rfl)))).trans hp⟩, (t.block _ (heap_lt h.k) (hs _ (.inr (.inr (.inl rfl))))).trans h.k, (t.block _ (heap_lt h.t) (hs _ (.inr (.inr (.inr rfl))))).trans h.t, h.ne⟩
section
variable {w w' : World} {o : Bool} {t kw tw : Nat} {Z : Wb}
theorem ty_ne (o : Bool) : tyE o ≠ 268 := by unfold tyE; cases o <;> decide
theorem WayAt.bk (h : WayAt w o t kw tw Z) : Z.B ≠ Z.KB := fun e => by
  have h1 := h.b; rw [e, h.k] at h1; injection h1 with h1; injection h1 with _ h1; exact ty_ne o h1.symm
theorem WayAt.bt (h : WayAt w o t kw tw Z) : Z.B ≠ Z.TB := fun e => by
  have h1 := h.b; rw [e, h.t] at h1; injection h1 with h1; injection h1 with _ h1; exact ty_ne o h1.symm
theorem parts_size (o : Bool) (KB TB : Nat) : (partsV o KB TB).size = nPart o := by unfold partsV nPart; cases o <;> rfl
theorem WayAt.pk (h : WayAt w o t kw tw Z) : Z.PB ≠ Z.KB := fun e => by
  obtain ⟨T, hp⟩ := h.p
  rw [e, h.k] at hp; injection hp with hp; injection hp with hp _
  have := parts_size o Z.KB Z.TB
  rw [← hp] at this
  unfold nPart at this
  cases o <;> simp [wordC] at this
theorem WayAt.pt (h : WayAt w o t kw tw Z) : Z.PB ≠ Z.TB := fun e => by
  obtain ⟨T, hp⟩ := h.p
  rw [e, h.t] at hp; injection hp with hp; injection hp with hp _
  have := parts_size o Z.KB Z.TB
  rw [← hp] at this
  unfold nPart at this
  cases o <;> simp [wordC] at this
theorem WayAt.pb (h : WayAt w o t kw tw Z) : Z.PB ≠ Z.B := fun e => by
  obtain ⟨T, hp⟩ := h.p
  rw [e, h.b] at hp; injection hp with hp; injection hp with hp _
  have := parts_size o Z.KB Z.TB
  rw [← hp] at this
  unfold nPart wayC at this
  cases o <;> simp at this
theorem heap_set_ne {w : World} {a : Addr} {v : Value} {B : Nat} (h : B ≠ a.block) : (w.setCell a v).heap[B]? = w.heap[B]? := Below.heap_setCell _ _ _ _ h
theorem WayAt.put (h : WayAt w o t kw tw Z) (i : Nat) (v : Value) (Z' : Wb) (e : (wayC o t Z).setIfInBounds i v = wayC o t Z') (e1 : Z'.B = Z.B) (e2 : Z'.PB = Z.PB) (e3 : Z'.KB = Z.KB) (e4 : Z'.TB = Z.TB) : WayAt (w.setCell ⟨Z.B, i, none⟩ v) o t kw tw Z' := by
  obtain ⟨T, hp⟩ := h.p
  refine ⟨?_, ⟨T, ?_⟩, ?_, ?_, ?_⟩
  · rw [e1]; exact set_blk h.b i v _ e
  · rw [e2, e3, e4, heap_set_ne h.pb]; exact hp
  · rw [e3, heap_set_ne (fun e => h.bk e.symm)]; exact h.k
  · rw [e4, heap_set_ne (fun e => h.bt e.symm)]; exact h.t
  · rw [e3, e4]; exact h.ne
theorem WayAt.putT (h : WayAt w o t kw tw Z) (v : Nat) : WayAt (w.setCell ⟨Z.TB, 2, none⟩ (.int .u64 (v : Int))) o t kw v Z := by
  obtain ⟨T, hp⟩ := h.p
  refine ⟨?_, ⟨T, ?_⟩, ?_, ?_, h.ne⟩
  · rw [heap_set_ne h.bt]; exact h.b
  · rw [heap_set_ne h.pt]; exact hp
  · rw [heap_set_ne h.ne]; exact h.k
  · exact set_blk h.t 2 _ _ rfl
theorem WayAt.putK (h : WayAt w o t kw tw Z) (v : Nat) : WayAt (w.setCell ⟨Z.KB, 2, none⟩ (.int .u64 (v : Int))) o t v tw Z := by
  obtain ⟨T, hp⟩ := h.p
  refine ⟨?_, ⟨T, ?_⟩, ?_, ?_, h.ne⟩
  · rw [heap_set_ne h.bk]; exact h.b
  · rw [heap_set_ne h.pk]; exact hp
  · exact set_blk h.k 2 _ _ rfl
  · rw [heap_set_ne (fun e => h.ne e.symm)]; exact h.t
end
end Go.Proofs.YtieiiabbeglmfaaGreatDoor.S15
set_option linter.unusedVariables false
set_option linter.unusedSimpArgs false
namespace Go.Proofs.YtieiiabbeglmfaaGreatDoor.S15
set_option maxRecDepth 100000
set_option maxHeartbeats 16000000
open Go.Proofs.YtieiiabbeglmfaaGreatDoor Go.Proofs.YtieiiabbeglmfaaGreatDoor.S11 Go.Proofs.YtieiiabbeglmfaaGreatDoor.S12 Go.Proofs.YtieiiabbeglmfaaGreatDoor.S13 Go.Proofs.YtieiiabbeglmfaaGreatDoor.S14
open Go.RowKit
abbrev sP (B : Nat) : Value := .pointer (some ⟨B, 2, none⟩)
theorem bits_any (u : Nat) (hu : u < 18446744073709551616) (w : World) : Calls Tryz.prog 89 #[.int .u64 (u : Int)] w fun e w' => e = .returned (.int .i64 (bitsN u : Int)) ∧ w = w' := by
  unfold bitsN
  by_cases h : 2 ≤ u
  · by_cases g : u ≤ 8
    · rw [if_pos ⟨h, g⟩]
      have d0 : decide ((u : Int) < 2) = false := decide_eq_false (by omega)
      have d1 : decide ((8 : Int) < (u : Int)) = false := decide_eq_false (by omega)
      have e1 : wrap64 (u : Int) = (u : Int) := by unfold wrap64; omega
      have e2 : IntKind.i64.wrap (u : Int) = (u : Int) := by rw [IntKind.wrap_i64]; omega
      clear h g hu
      go_enter Tryz.func89, Tryz.ntmps89
      go_wp2_with fail
      go_ret
      exact ⟨rfl, rfl⟩
    · rw [if_neg (by omega)]
      have d0 : decide ((u : Int) < 2) = false := decide_eq_false (by omega)
      have d1 : decide ((8 : Int) < (u : Int)) = true := decide_eq_true (by omega)
      clear h g hu
      go_enter Tryz.func89, Tryz.ntmps89
      go_wp2_with fail
      go_ret
      exact ⟨rfl, rfl⟩
  · rw [if_neg (by omega)]
    have d0 : decide ((u : Int) < 2) = true := decide_eq_true (by omega)
    clear h hu
    go_enter Tryz.func89, Tryz.ntmps89
    go_wp2_with fail
    go_ret
    exact ⟨rfl, rfl⟩
theorem isT_any (t : Int) (w : World) : Calls Tryz.prog 119 #[.int .i64 t] w fun e w' => e = .returned (.bool (decide (0 ≤ t ∧ t < 64))) ∧ w = w' := by
  by_cases h : 0 ≤ t
  · by_cases g : t < 64
    · rw [decide_eq_true (And.intro h g)]
      have d0 : decide ((0 : Int) ≤ t) = true := decide_eq_true h
      have d1 : decide (t < (64 : Int)) = true := decide_eq_true g
      clear h g
      go_enter Tryz.func119, Tryz.ntmps119
      go_wp2_with fail
      go_ret
      exact ⟨rfl, rfl⟩
    · rw [decide_eq_false (by omega)]
      have d0 : decide ((0 : Int) ≤ t) = true := decide_eq_true h
      have d1 : decide (t < (64 : Int)) = false := decide_eq_false g
      clear h g
      go_enter Tryz.func119, Tryz.ntmps119
      go_wp2_with fail
      go_ret
      exact ⟨rfl, rfl⟩
  · rw [decide_eq_false (by omega)]
    have d0 : decide ((0 : Int) ≤ t) = false := decide_eq_false h
    clear h
    go_enter Tryz.func119, Tryz.ntmps119
    go_wp2_with fail
    go_ret
    exact ⟨rfl, rfl⟩
def placeV (key u : Nat) : Value := .agg #[.int .i64 (bitsN u : Int), .int .i64 (bktN key u : Int)]
theorem place_any (key u : Nat) (hk : key < 4294967296) (hu : u < 18446744073709551616) (w : World) : Calls Tryz.prog 33 #[.int .u32 (key : Int), .int .u64 (u : Int)] w fun e w' => e = .returned (placeV key u) ∧ Below w.heap.size w w' := by
  have hb := fun W => bits_any u hu W
  have hh : ∀ W, Calls Tryz.prog 90 #[.int .u32 (key : Int), .int .i64 (bitsN u : Int)] W fun e w' => e = .returned (.int .i64 (bktN key u : Int)) ∧ W = w' := fun W => by
    have := S10.hash_any key (bitsN u : Nat) hk W
    rwa [bkt_hash] at this
  have HB := Lib.hid hb; have HH := Lib.hid hh
  unfold placeV
  generalize bitsN u = b at *
  generalize bktN key u = k at *
  clear hb hh hk hu
  go_enter Tryz.func33, Tryz.ntmps33
  go_wp2_with (first
    | (go_at_call 89; refine (HB.out _).mono ?_; rintro e w2 ⟨rfl, rfl⟩)
    | (go_at_call 90; refine (HH.out _).mono ?_; rintro e w3 ⟨rfl, rfl⟩))
  exact bodyPost_ret (v := .agg #[.int .i64 (b : Int), .int .i64 (k : Int)]) (by simp [results, Tryz.results33, go_sem]) rfl ⟨rfl, below1 w _⟩
theorem lockOf_any (b i : Int) (w : World) : Calls Tryz.prog 148 #[.agg #[.int .i64 b, .int .i64 i]] w fun e w' => e = .returned (.int .u32 (S10.lockZ b i)) ∧ Below w.heap.size w w' := by
  have HL := Lib.hid (fun W => S10.lock_any b i W)
  generalize S10.lockZ b i = a at *
  go_enter Tryz.func148, Tryz.ntmps148
  go_wp2_with (go_at_call 180; refine (HL.out _).mono ?_; rintro e w2 ⟨rfl, rfl⟩)
  go_ret
  exact ⟨rfl, below1 _ _⟩
theorem rbegin_any (p s : Value) (hp : ∃ B, p = Pw B) (w : World) : Calls Tryz.prog 314 #[.agg #[p], s] w fun e w' => e = .returned (.bool true) ∧ Below w.heap.size w w' := by
  obtain ⟨B, rfl⟩ := hp
  go_enter Tryz.func314, Tryz.ntmps314
  go_wp2_with fail
  go_ret
  exact ⟨rfl, below1 _ _⟩
theorem abegin_any {s : Bool} {w : World} {B Q : Nat} (c : w.cell? ⟨B, 7, none⟩ = some (.bool s)) : Calls Tryz.prog 329 #[.agg #[Pw Q], sP B] w fun e w' => e = .returned (.bool (!s)) ∧ Below w.heap.size w w' := by
  have hb := below1 w (.cells #[Pw Q] 274)
  have c1 : (w.alloc (.cells #[Pw Q] 274)).cell? ⟨B, 7, none⟩ = some (.bool s) := bcell hb c
  have HB := Lib.hid hb
  clear hb c
  go_enter Tryz.func329, Tryz.ntmps329
  go_upto_region 1 with (fail)
  generalize w.alloc (.cells #[Pw Q] 274) = w1 at *
  cases s
  all_goals
    go_wp2_with fail
    go_ret
    exact ⟨rfl, HB.out⟩
section
variable {w0 w w' : World} {base WB : Nat} {M : Sd} {r : List Part} {j : Nat} {o : Bool} {t kw tw : Nat} {Z : Wb} {X : Wm}
structure Wy (w0 w : World) (base WB : Nat) (M : Sd) (r : List Part) (j : Nat) (o : Bool) (t kw tw : Nat) (Z : Wb) (X : Wm) : Prop where
  pg : Pg w0 w base WB M (r.set j (wayP o t kw tw Z)) X
  hj : j < r.length
theorem Wy.new (h : Wy w0 w base WB M r j o t kw tw Z X) (b : Below w.heap.size w w') : Wy w0 w' base WB M r j o t kw tw Z X := ⟨h.pg.new b, h.hj⟩
theorem Wy.part (h : Wy w0 w base WB M r j o t kw tw Z X) : (r.set j (wayP o t kw tw Z))[j]? = some (wayP o t kw tw Z) := List.getElem?_set_self h.hj
theorem Wy.at (h : Wy w0 w base WB M r j o t kw tw Z X) : WayAt w o t kw tw Z := h.pg.ps.ok _ _ (h.pg.part h.part)
theorem Wy.turn (h : Wy w0 w base WB M r j o t kw tw Z X) {o' : Bool} {t' kw' tw' : Nat} {Z' : Wb} (hq : WayAt w' o' t' kw' tw' Z') (tn : Turns (wayP o t kw tw Z).fp w w') (hf : ∀ k, (wayP o' t' kw' tw' Z').fp k → (wayP o t kw tw Z).fp k ∨ w.heap.size ≤ k) : Wy w0 w' base WB M r j o' t' kw' tw' Z' X := by
  have := h.pg.turn h.part (wayP o' t' kw' tw' Z') hq tn hf
  rw [List.set_set] at this
  exact ⟨this, h.hj⟩
theorem Wy.put (h : Wy w0 w base WB M r j o t kw tw Z X) (i : Nat) (v : Value) (Z' : Wb) (e : (wayC o t Z).setIfInBounds i v = wayC o t Z') (e1 : Z'.B = Z.B) (e2 : Z'.PB = Z.PB) (e3 : Z'.KB = Z.KB) (e4 : Z'.TB = Z.TB) : Wy w0 (w.setCell ⟨Z.B, i, none⟩ v) base WB M r j o t kw tw Z' X :=
  h.turn (h.at.put i v Z' e e1 e2 e3 e4) ((Turns.refl _ w).setCell ⟨Z.B, i, none⟩ _ (.inl rfl)) (fun k hk => .inl (by
    rcases hk with e | e | e | e
    · exact .inl (e.trans e1)
    · exact .inr (.inl (e.trans e2))
    · exact .inr (.inr (.inl (e.trans e3)))
    · exact .inr (.inr (.inr (e.trans e4)))))
theorem Wy.putT (h : Wy w0 w base WB M r j o t kw tw Z X) (v : Nat) : Wy w0 (w.setCell ⟨Z.TB, 2, none⟩ (.int .u64 (v : Int))) base WB M r j o t kw v Z X :=
  h.turn (h.at.putT v) ((Turns.refl _ w).setCell ⟨Z.TB, 2, none⟩ _ (.inr (.inr (.inr rfl)))) (fun k hk => .inl hk)
theorem Wy.putK (h : Wy w0 w base WB M r j o t kw tw Z X) (v : Nat) : Wy w0 (w.setCell ⟨Z.KB, 2, none⟩ (.int .u64 (v : Int))) base WB M r j o t v tw Z X :=
  h.turn (h.at.putK v) ((Turns.refl _ w).setCell ⟨Z.KB, 2, none⟩ _ (.inr (.inr (.inl rfl)))) (fun k hk => .inl hk)
theorem Wy.c (h : Wy w0 w base WB M r j o t kw tw Z X) : w.cell? ⟨Z.B, 0, none⟩ = some (.slice (some ⟨Z.PB, 0, none⟩) (nPart o) (nPart o)) ∧ w.cell? ⟨Z.B, 1, none⟩ = some (.int .i64 Z.i) ∧ w.cell? ⟨Z.B, 2, none⟩ = some (.int .i64 (t : Int)) ∧ w.cell? ⟨Z.B, 3, none⟩ = some (Pw Z.KB) ∧ w.cell? ⟨Z.B, 4, none⟩ = some (Pw Z.TB) ∧ w.cell? ⟨Z.B, 5, none⟩ = some (.int .i64 Z.pb) ∧ w.cell? ⟨Z.B, 6, none⟩ = some (.int .i64 Z.pi) ∧ w.cell? ⟨Z.B, 7, none⟩ = some (.bool Z.st) ∧ w.cell? ⟨Z.B, 8, none⟩ = some Z.uv :=
  ⟨cell_row h.at.b 0, cell_row h.at.b 1, cell_row h.at.b 2, cell_row h.at.b 3, cell_row h.at.b 4, cell_row h.at.b 5, cell_row h.at.b 6, cell_row h.at.b 7, cell_row h.at.b 8⟩
theorem Wy.kc (h : Wy w0 w base WB M r j o t kw tw Z X) : w.cell? ⟨Z.KB, 0, none⟩ = some (.int .u32 (kyA o t : Int)) ∧ w.cell? ⟨Z.KB, 2, none⟩ = some (.int .u64 (kw : Int)) := ⟨cell_row h.at.k 0, cell_row h.at.k 2⟩
theorem Wy.tc (h : Wy w0 w base WB M r j o t kw tw Z X) : w.cell? ⟨Z.TB, 0, none⟩ = some (.int .u32 0) ∧ w.cell? ⟨Z.TB, 2, none⟩ = some (.int .u64 (tw : Int)) := ⟨cell_row h.at.t 0, cell_row h.at.t 2⟩
theorem Wy.ks (h : Wy w0 w base WB M r j o t kw tw Z X) : w.cell? ⟨Z.KB, 1, none⟩ = some (.bool o) ∧ w.cell? ⟨Z.TB, 1, none⟩ = some (.bool false) := ⟨cell_row h.at.k 1, cell_row h.at.t 1⟩
theorem Wy.fz (h : Wy w0 w base WB M r j o t kw tw Z X) (i : Nat) : w.frozen? ⟨Z.B, i, none⟩ = false ∧ w.frozen? ⟨Z.KB, i, none⟩ = false ∧ w.frozen? ⟨Z.TB, i, none⟩ = false := ⟨froz_row h.at.b i, froz_row h.at.k i, froz_row h.at.t i⟩
theorem Wy.load (h : Wy w0 w base WB M r j o t kw tw Z X) {a : Nat} (ha : a < 4294967296) (hn : M.n ≤ 1000000000) :
    Calls Tryz.prog 207 #[Pw X.cB, .int .u32 a] w fun e w' => e = .returned (.int .u64 (S2.look M.L a : Nat)) ∧ ∃ X', Wy w0 w' base WB (M.acc 1 a (S2.look M.L a)) r j o t kw tw Z X' ∧ X'.cB = X.cB := by
  refine (h.pg.load ha hn).mono ?_
  rintro e w' ⟨rfl, X', h', e'⟩
  exact ⟨rfl, X', ⟨h', h.hj⟩, e'⟩
end
end Go.Proofs.YtieiiabbeglmfaaGreatDoor.S15
