/- Texts of this seat, one behind the other. -/
import Derived.Test.YtdodloannlfnlaaGreatE25
set_option linter.unusedVariables false
set_option linter.unusedSimpArgs false
namespace Go.Proofs.YtdodloannlfnlaaGreat.S14
open Go.Proofs.YtdodloannlfnlaaGreat Go.Proofs.YtdodloannlfnlaaGreat.S11 Go.Proofs.YtdodloannlfnlaaGreat.S12 Go.Proofs.YtdodloannlfnlaaGreat.S13
open Go.RowKit

section
variable {w0 w w' : World} {base WB : Nat} {M : Sd} {r : List Part} {j B : Nat} {K : Fr} {X : Wm}
set_option maxRecDepth 100000 in
set_option maxHeartbeats 8000000 in
theorem beh5 (h : Wf w0 w base WB M r j B K X) (ok : FrOk M K) (hl : K.ln = 5) : Calls Tryz.prog 198 #[Pw B, Pw WB] w (Behind w0 base WB M r j B K) := by
  have hj := h.hj
  have c0 := h.b0
  rw [hl] at c0
  have c2 := h.b2; have c3 := h.b3; have c4 := h.b4
  have hA := h.pushB (.cells #[.bool K.l, .bool K.q, .int .i64 K.h] 299)
  obtain ⟨Q, hQ⟩ : ∃ Q, Q = w.heap.size := ⟨_, rfl⟩
  rw [← hQ] at hA
  have HA := Lib.hid hA; have HJ := Lib.hid hj; have HQ := Lib.hid hQ; have HOK := Lib.hid ok; have HL := Lib.hid hl
  clear h hj hA hQ ok hl
  go_enter Tryz.func198, Tryz.ntmps198
  go_wp2_with fail
  refine wp_scope_two rfl rfl ?_
  go_upto_region 3 with (fail)
  rw [← HQ.out]
  generalize w.alloc (.cells #[.bool K.l, .bool K.q, .int .i64 K.h] 299) = w1 at *
  clear c0 c2 c3 c4
  have c0 := HA.out.b0
  rw [HL.out] at c0
  obtain ⟨kl, kq, kh, kn⟩ := HOK.out.con (by rw [HL.out]; omega) (by rw [HL.out]; omega)
  have hput : S1.putU K.l K.q K.h = K.w := by rw [kl, kq, kh]; exact (word_put kn).1
  have hish : S1.isHead K.h := by rw [kh]; exact S1.head_is _
  go_upto_region 21 with (fail)
  clear c0
  have H2 := Lib.hid HA.out
  obtain ⟨w2, hw2⟩ : ∃ w2, w2 = w1 := ⟨_, rfl⟩
  rw [← hw2] at H2 ⊢
  clear hw2
  obtain ⟨x, hx⟩ : ∃ x, x = S2.look M.L K.a := ⟨_, rfl⟩
  have hsw : Calls Tryz.prog 200 #[Pw B, Pw WB, .agg #[.bool false, .bool false, .int .i64 (-1)]] w2 fun e w' => e = .returned (.bool (decide (x = K.w))) ∧ ∃ X', Wf w0 w' base WB (M.acc 3 K.a (S2.casV x K.w (0))) (r ++ [blockP Q (.cells #[.bool K.l, .bool K.q, .int .i64 K.h] 299)]) j B (K.cas x K.w false false (-1)) X' := by
    have hs := swapped_f H2.out HOK.out.a HOK.out.n hish hput (l2 := false) (q2 := false) (h2 := (-1)) (by unfold S1.isHead; omega)
    rw [show S1.putU false false (-1) = 0 from by decide, ← hx] at hs
    exact hs
  obtain ⟨M1, hM1⟩ : ∃ M1, M1 = M.acc 3 K.a (S2.casV x K.w (0)) := ⟨_, rfl⟩
  rw [← hM1] at hsw
  have HM1 := Lib.hid hM1; have HX := Lib.hid hx
  have HCON := Lib.hid (And.intro kl (And.intro kq (And.intro kh kn)))
  have hlk : M1.lk = M.lk := by rw [hM1]; rfl
  have HLK := Lib.hid hlk
  clear hM1 hput hish kl kq kh kn hlk
  by_cases e : x = K.w
  · have hsw2 := hsw
    rw [decide_eq_true e, show K.cas x K.w false false (-1) = { K with l := false, q := false, h := (-1) } from if_pos e] at hsw2
    have HSW := Lib.hid hsw2; have HE := Lib.hid e
    clear hsw hsw2 hx e
    have hfin : ∀ w' X', Wf w0 w' base WB M1 (r ++ [blockP Q (.cells #[.bool K.l, .bool K.q, .int .i64 K.h] 299)]) j B { K with l := false, q := false, h := (-1) } X' → Behind w0 base WB M r j B K (.returned (.int .u8 (7 : Int))) w' := fun w' X' h => by
      unfold Behind
      rw [show fstepM M K = _ from by simp only [fstepM, HL.out]; rfl, show fstepK M K = _ from by simp only [fstepK, HL.out]; rfl, ← HX.out, if_pos HE.out, if_pos HE.out, ← HM1.out]
      exact ⟨rfl, X', h.dropB HJ.out⟩
    have HF := Lib.hid hfin
    clear hfin
    go_wp2_with (go_at_call 200; refine HSW.out.mono ?_; rintro e w5 ⟨rfl, X5, h5⟩; have H5 := Lib.hid h5; clear h5)
    (try simp only [to2])
    go_ret
    exact HF.out _ _ H5.out
  · have hsw2 := hsw
    rw [decide_eq_false e, show K.cas x K.w false false (-1) = { K with l := S1.bitB x 0, q := S1.bitB x 1, h := S1.headN x } from if_neg e] at hsw2
    have HSW := Lib.hid hsw2; have HE := Lib.hid e
    clear hsw hsw2 hx e
    have HU := Lib.hid (show (K.says x).l = S1.bitB x 0 ∧ (K.says x).h = S1.headN x from ⟨rfl, rfl⟩)
    have hsb : ∀ e w', SeekF w0 base WB M1 (r ++ [blockP Q (.cells #[.bool K.l, .bool K.q, .int .i64 K.h] 299)]) j B (K.says x) x e w' → Behind w0 base WB M r j B K e w' := fun e w' h => by
      obtain ⟨rfl, X', h⟩ := h
      unfold Behind
      rw [show fstepM M K = _ from by simp only [fstepM, HL.out]; rfl, show fstepK M K = _ from by simp only [fstepK, HL.out]; rfl, ← HX.out, if_neg HE.out, if_neg HE.out, ← HM1.out]
      rw [HLK.out] at h ⊢
      exact ⟨rfl, X', h.dropB HJ.out⟩
    have HSB := Lib.hid hsb
    clear hsb
    go_wp2_with (go_at_call 200; refine HSW.out.mono ?_; rintro e w5 ⟨rfl, X5, h5⟩; have H5 := Lib.hid h5; clear h5)
    have H6' := Lib.hid (H5.out.recast (K.says x) rfl)
    clear H5
    go_step3
    refine Or.inr ⟨rfl, ?_⟩
    show Code.wp _ _ _ _ _
    obtain ⟨lv, hlv⟩ : ∃ b, b = S1.bitB x 0 := ⟨_, rfl⟩
    obtain ⟨hv, hhv⟩ : ∃ b, b = S1.headN x := ⟨_, rfl⟩
    obtain ⟨n2, hn2⟩ : ∃ n, n = (S5.seekO (M1).lk (hdO x)).2 := ⟨_, rfl⟩
    obtain ⟨S2, hS2⟩ : ∃ S, S = (S5.seekO (M1).lk (hdO x)).1 := ⟨_, rfl⟩
    have hle := seekO_le (S := (M1).lk) (fun i => pg_le H6'.out.pg i) x
    rw [← hn2, ← hS2] at hle
    have hsk : Calls Tryz.prog 203 #[Pw X5.lB, .int .i64 hv] w5.drew fun e w' => e = .returned (.int .i64 ((n2 : Int) - 1)) ∧ ∃ X', Pg w0 w' base WB ((M1).link S2) ((r ++ [blockP Q (.cells #[.bool K.l, .bool K.q, .int .i64 K.h] 299)]).set j (freeP B (K.says x))) X' ∧ X'.lB = X5.lB := by
      rw [hn2, hS2, hhv]
      exact pg_seek (H6'.out.new (Below.refl _ _).drew).pg (num_head x)
    have HSK := Lib.hid hsk
    have HLV := Lib.hid hlv; have HHV := Lib.hid hhv; have HN2 := Lib.hid hn2; have HS2 := Lib.hid hS2; have HLE := Lib.hid hle
    have e2 := H6'.out.b2; have e4 := H6'.out.b4; have e3 := H6'.out.pg.c.2.2.1; have e5 := H6'.out.b5
    rw [HU.out.1, ← hlv] at e2
    rw [HU.out.2, ← hhv] at e4
    clear hlv hhv hn2 hS2 hle hsk
    have HX9 := Lib.hid (And.intro e3 e4)
    go_upto_region 29 with (fail)
    refine wp_region_held_drew (S := fun w' => w'.cell? ⟨WB, 3, none⟩ = some (Pw X5.lB) ∧ w'.cell? ⟨B, 4, none⟩ = some (.int .i64 hv)) (by kernel_rfl) ?_ (fun hHeld => ?_)
    · exact HX9.out
    refine wpAnyH_take (i := 0) (oi := ({ dst := some 96, op := Op.move (Operand.tmp 5), type := 320, pos := "wordfrees.go:106", after := #[], guard := none } : Oper)) (v := ?vsm1) rfl (by kernel_rfl) (by kernel_rfl) (by kernel_rfl) (fun _ _ _ h => h) (Or.inl ⟨by rfl, fun w hSw => ?hysm1⟩) (by assumption) ?rsm1
    case hysm1 => (try dsimp only at hSw); go_simp; (try with_reducible rfl)
    (try simp only [Act.put, List.setIfInBounds_toArray, List.set_cons_zero, List.set_cons_succ])
    refine wpAnyH_take (i := 1) (oi := ({ dst := some 97, op := Op.move (Operand.tmp 1), type := 22, pos := "wordfrees.go:106", after := #[], guard := none } : Oper)) (v := ?vsm2) rfl (by kernel_rfl) (by kernel_rfl) (by kernel_rfl) (fun _ _ _ h => h) (Or.inl ⟨by rfl, fun w hSw => ?hysm2⟩) (by assumption) ?rsm2
    case hysm2 => (try dsimp only at hSw); go_simp; (try with_reducible rfl)
    (try simp only [Act.put, List.setIfInBounds_toArray, List.set_cons_zero, List.set_cons_succ])
    refine wpAnyH_take (i := 2) (oi := ({ dst := some 98, op := Op.nilCheck (Operand.tmp 97), type := 0, pos := "wordfrees.go:106", after := #[{ on := 1, ground := Ground.data }], guard := none } : Oper)) (v := ?vsm3) rfl (by kernel_rfl) (by kernel_rfl) (by kernel_rfl) (fun _ _ _ h => h) (Or.inl ⟨by rfl, fun w hSw => ?hysm3⟩) (by assumption) ?rsm3
    case hysm3 => (try dsimp only at hSw); go_simp; (try with_reducible rfl)
    (try simp only [Act.put, List.setIfInBounds_toArray, List.set_cons_zero, List.set_cons_succ])
    refine wpAnyH_take (i := 3) (oi := ({ dst := some 99, op := Op.fieldAddr 60 (Operand.tmp 98) 3, type := 0, pos := "wordfrees.go:106", after := #[{ on := 2, ground := Ground.data }], guard := none } : Oper)) (v := ?vsm4) rfl (by kernel_rfl) (by kernel_rfl) (by kernel_rfl) (fun _ _ _ h => h) (Or.inl ⟨by rfl, fun w hSw => ?hysm4⟩) (by assumption) ?rsm4
    case hysm4 => (try dsimp only at hSw); go_simp; (try with_reducible rfl)
    (try simp only [Act.put, List.setIfInBounds_toArray, List.set_cons_zero, List.set_cons_succ])
    refine wpAnyH_take (i := 4) (oi := ({ dst := some 100, op := Op.load 55 (Operand.tmp 99), type := 55, pos := "wordfrees.go:106", after := #[{ on := 3, ground := Ground.data }], guard := none } : Oper)) (v := ?vsm5) rfl (by kernel_rfl) (by kernel_rfl) (by kernel_rfl) (fun _ _ _ h => h) (Or.inl ⟨by rfl, fun w hSw => ?hysm5⟩) (by assumption) ?rsm5
    case hysm5 => (try dsimp only at hSw); go_simp; (try with_reducible rfl)
    (try simp only [Act.put, List.setIfInBounds_toArray, List.set_cons_zero, List.set_cons_succ])
    refine wpAnyH_take (i := 5) (oi := ({ dst := some 101, op := Op.move (Operand.tmp 5), type := 320, pos := "wordfrees.go:106", after := #[], guard := none } : Oper)) (v := ?vsm6) rfl (by kernel_rfl) (by kernel_rfl) (by kernel_rfl) (fun _ _ _ h => h) (Or.inl ⟨by rfl, fun w hSw => ?hysm6⟩) (by assumption) ?rsm6
    case hysm6 => (try dsimp only at hSw); go_simp; (try with_reducible rfl)
    (try simp only [Act.put, List.setIfInBounds_toArray, List.set_cons_zero, List.set_cons_succ])
    refine wpAnyH_take (i := 6) (oi := ({ dst := some 102, op := Op.nilCheck (Operand.tmp 101), type := 0, pos := "wordfrees.go:106", after := #[{ on := 5, ground := Ground.data }], guard := none } : Oper)) (v := ?vsm7) rfl (by kernel_rfl) (by kernel_rfl) (by kernel_rfl) (fun _ _ _ h => h) (Or.inl ⟨by rfl, fun w hSw => ?hysm7⟩) (by assumption) ?rsm7
    case hysm7 => (try dsimp only at hSw); go_simp; (try with_reducible rfl)
    (try simp only [Act.put, List.setIfInBounds_toArray, List.set_cons_zero, List.set_cons_succ])
    refine wpAnyH_take (i := 7) (oi := ({ dst := some 103, op := Op.fieldAddr 316 (Operand.tmp 102) 0, type := 0, pos := "wordfrees.go:106", after := #[{ on := 6, ground := Ground.data }], guard := none } : Oper)) (v := ?vsm8) rfl (by kernel_rfl) (by kernel_rfl) (by kernel_rfl) (fun _ _ _ h => h) (Or.inl ⟨by rfl, fun w hSw => ?hysm8⟩) (by assumption) ?rsm8
    case hysm8 => (try dsimp only at hSw); go_simp; (try with_reducible rfl)
    (try simp only [Act.put, List.setIfInBounds_toArray, List.set_cons_zero, List.set_cons_succ])
    refine wpAnyH_take (i := 8) (oi := ({ dst := some 104, op := Op.fieldAddr 299 (Operand.tmp 103) 2, type := 0, pos := "wordfrees.go:106", after := #[{ on := 7, ground := Ground.data }], guard := none } : Oper)) (v := ?vsm9) rfl (by kernel_rfl) (by kernel_rfl) (by kernel_rfl) (fun _ _ _ h => h) (Or.inl ⟨by rfl, fun w hSw => ?hysm9⟩) (by assumption) ?rsm9
    case hysm9 => (try dsimp only at hSw); go_simp; (try with_reducible rfl)
    (try simp only [Act.put, List.setIfInBounds_toArray, List.set_cons_zero, List.set_cons_succ])
    refine wpAnyH_take (i := 9) (oi := ({ dst := some 105, op := Op.load 3 (Operand.tmp 104), type := 3, pos := "wordfrees.go:106", after := #[{ on := 8, ground := Ground.data }], guard := none } : Oper)) (v := ?vsm10) rfl (by kernel_rfl) (by kernel_rfl) (by kernel_rfl) (fun _ _ _ h => h) (Or.inl ⟨by rfl, fun w hSw => ?hysm10⟩) (by assumption) ?rsm10
    case hysm10 => (try dsimp only at hSw); go_simp; (try with_reducible rfl)
    (try simp only [Act.put, List.setIfInBounds_toArray, List.set_cons_zero, List.set_cons_succ])
    refine wpAnyH_ready (rs := [10]) (by kernel_rfl) (by simp) ?_
    refine AllReadyH.cons (o := ({ dst := some 106, op := Op.call { callee := Callee.value (Operand.func 203), args := #[Operand.tmp 100, Operand.tmp 105], argTypes := #[55, 3] }, type := 3, pos := "wordfrees.go:106", after := #[{ on := 4, ground := Ground.data }, { on := 9, ground := Ground.data }], guard := none } : Oper)) rfl (fun Kq hKq => ?_) AllReadyH.nil
    go_simp
    (refine HSK.out.mono ?_; rintro e w6 ⟨rfl, X6, h6g, hlb6⟩; have H6 := Lib.hid (show Wf w0 w6 base WB ((M1).link S2) (r ++ [blockP Q (.cells #[.bool K.l, .bool K.q, .int .i64 K.h] 299)]) j B (K.says x) X6 from ⟨h6g, H6'.out.hj⟩); have HLB := Lib.hid hlb6; clear h6g hlb6)
    refine hKq.out _ _ ?_ (fun hHeld => ?_)
    · (have q3 := H6.out.pg.c.2.2.1; have q4 := H6.out.b4; rw [HLB.out] at q3; refine ⟨q3, ?_⟩; rw [HHV.out, ← HU.out.2]; exact q4)
    clear hKq Kq
    (try simp only [Act.put, List.setIfInBounds_toArray, List.set_cons_zero, List.set_cons_succ])
    refine wpAnyH_take (i := 11) (oi := ({ dst := some 107, op := Op.nilCheck (Operand.tmp 96), type := 0, pos := "wordfrees.go:106", after := #[{ on := 0, ground := Ground.data }, { on := 0, ground := Ground.phase }, { on := 1, ground := Ground.phase }, { on := 2, ground := Ground.phase }, { on := 3, ground := Ground.phase }, { on := 4, ground := Ground.phase }, { on := 5, ground := Ground.phase }, { on := 6, ground := Ground.phase }, { on := 7, ground := Ground.phase }, { on := 8, ground := Ground.phase }, { on := 9, ground := Ground.phase }, { on := 10, ground := Ground.phase }], guard := none } : Oper)) (v := ?vsm11) rfl (by kernel_rfl) (by kernel_rfl) (by kernel_rfl) (fun _ _ _ h => h) (Or.inl ⟨by rfl, fun w hSw => ?hysm11⟩) (by assumption) ?rsm11
    case hysm11 => (try dsimp only at hSw); go_simp; (try with_reducible rfl)
    (try simp only [Act.put, List.setIfInBounds_toArray, List.set_cons_zero, List.set_cons_succ])
    refine wpAnyH_take (i := 12) (oi := ({ dst := some 108, op := Op.fieldAddr 316 (Operand.tmp 107) 1, type := 0, pos := "wordfrees.go:106", after := #[{ on := 11, ground := Ground.data }, { on := 0, ground := Ground.phase }, { on := 1, ground := Ground.phase }, { on := 2, ground := Ground.phase }, { on := 3, ground := Ground.phase }, { on := 4, ground := Ground.phase }, { on := 5, ground := Ground.phase }, { on := 6, ground := Ground.phase }, { on := 7, ground := Ground.phase }, { on := 8, ground := Ground.phase }, { on := 9, ground := Ground.phase }, { on := 10, ground := Ground.phase }], guard := none } : Oper)) (v := ?vsm12) rfl (by kernel_rfl) (by kernel_rfl) (by kernel_rfl) (fun _ _ _ h => h) (Or.inl ⟨by rfl, fun w hSw => ?hysm12⟩) (by assumption) ?rsm12
    case hysm12 => (try dsimp only at hSw); go_simp; (try with_reducible rfl)
    (try simp only [Act.put, List.setIfInBounds_toArray, List.set_cons_zero, List.set_cons_succ])
    refine wpAnyH_ready (rs := [13]) (by kernel_rfl) (by simp) ?_
    refine AllReadyH.cons (o := ({ dst := none, op := Op.store 3 (Operand.tmp 108) (Operand.tmp 106), type := 0, pos := "wordfrees.go:106", after := #[{ on := 12, ground := Ground.data }, { on := 10, ground := Ground.data }, { on := 10, ground := Ground.chain }, { on := 0, ground := Ground.phase }, { on := 1, ground := Ground.phase }, { on := 2, ground := Ground.phase }, { on := 3, ground := Ground.phase }, { on := 4, ground := Ground.phase }, { on := 5, ground := Ground.phase }, { on := 6, ground := Ground.phase }, { on := 7, ground := Ground.phase }, { on := 8, ground := Ground.phase }, { on := 9, ground := Ground.phase }, { on := 10, ground := Ground.phase }], guard := none } : Oper)) rfl (fun Kq hKq => ?_) AllReadyH.nil
    (have y5 := H6.out.b5; have f5 := H6.out.fz 5; go_simp; have h7 := H6.out.tail ((n2 : Int) - 1); have H7 := Lib.hid h7; clear y5 f5 h7; generalize w6.setCell ⟨B, 5, none⟩ (.int .i64 ((n2 : Int) - 1)) = w7 at *)
    refine hKq.out _ _ ?_ (fun hHeld => ?_)
    · (have q3 := H7.out.pg.c.2.2.1; have q4 := H7.out.b4; rw [HLB.out] at q3; refine ⟨q3, ?_⟩; rw [HHV.out, ← HU.out.2]; exact q4)
    clear hKq Kq
    (try simp only [Act.put, List.setIfInBounds_toArray, List.set_cons_zero, List.set_cons_succ])
    refine wpAnyH_done (by kernel_rfl) ?_ _
    clear hHeld e2 e3 e4 e5 HSK
    have e5 := H7.out.b5; have e2 := H7.out.b2; have e4 := H7.out.b4; have e3 := H7.out.pg.c.2.2.1
    replace e2 : w7.cell? ⟨B, 2, none⟩ = some (.bool lv) := by rw [HLV.out, ← HU.out.1]; exact e2
    replace e4 : w7.cell? ⟨B, 4, none⟩ = some (.int .i64 hv) := by rw [HHV.out, ← HU.out.2]; exact e4
    have hleaf : ∀ (W : World) (S : S5.Lk) (t : Int) (n : Nat), (S, t, n) = seekL (M1).lk x → (∃ X', Wf w0 W base WB ((M1).link S) (r ++ [blockP Q (.cells #[.bool K.l, .bool K.q, .int .i64 K.h] 299)]) j B { (K.says x : Fr) with t := t } X') → Behind w0 base WB M r j B K (.returned (.int .u8 (n : Int))) W := fun W S t n hs ⟨X', hx⟩ => by
      refine HSB.out _ _ ⟨?_, X', ?_⟩
      · rw [← hs]
      · rw [← hs]; exact hx
    have HLF := Lib.hid hleaf
    clear hleaf
    cases n2 with
    | zero =>
      have e6 : w7.cell? ⟨B, 5, none⟩ = some (.int .i64 (-1)) := e5
      have hq : (S2, (-1 : Int), 0) = seekL (M1).lk x := by unfold seekL; rw [if_pos HN2.out.symm, ← HS2.out]
      have HFIN := Lib.hid (HLF.out w7 _ _ _ hq ⟨X6, H7.out⟩)
      clear e5 hq HLF
      go_wp2_with fail
      (try simp only [Exit.noGoto])
      go_ret
      exact HFIN.out
    | succ m =>
      have em : ((m + 1 : Nat) : Int) - 1 = (m : Int) := by omega
      have hm := HLE.out.1
      rw [em] at e5
      have hne : ((m : Int) == -1) = false := by rw [beq_eq_false_iff_ne]; omega
      have hn0 : ¬ (S5.seekO (M1).lk (hdO x)).2 = 0 := by rw [← HN2.out]; omega
      have htl : (((S5.seekO (M1).lk (hdO x)).2 : Int) - 1) = (m : Int) := by rw [← HN2.out]; omega
      have hpr : (S5.seekO (M1).lk (hdO x)).2 - 1 = m := by rw [← HN2.out]; omega
      have h8 := H7.out
      rw [em] at h8
      have H8 := Lib.hid h8; have HM := Lib.hid (show m < 64 by omega); have HEQ := Lib.hid (And.intro hn0 (And.intro htl hpr))
      clear em hm hn0 htl hpr h8 H7
      cases lv with
      | true =>
        have hq : (S2, (m : Int), 4) = seekL (M1).lk x := by unfold seekL; rw [if_neg HEQ.out.1, if_pos HLV.out.symm, HEQ.out.2.1, ← HS2.out]
        have HFIN := Lib.hid (HLF.out w7 _ _ _ hq ⟨X6, H8.out⟩)
        clear hq HLF
        go_wp2_with fail
        (try simp only [Exit.noGoto])
        go_ret
        exact HFIN.out
      | false =>
        obtain ⟨y0, y1, y2, hat0⟩ : ∃ y0 y1 y2 : Int, (Calls Tryz.prog 33 #[Pw X6.lB, .int .i64 (m : Int)] w7.drew fun e w' => e = .returned (.agg #[.int .i64 y0, .int .i64 y1, .int .i64 y2]) ∧ Below w7.drew.heap.size w7.drew w') ∧ y1 = (S2 (m * 3 + 1) : Int) - 1 := ⟨_, _, _, pg_at (H8.out.new (Below.refl _ _).drew).pg HM.out, rfl⟩
        have HAT := Lib.hid hat0.1; have HY1 := Lib.hid hat0.2
        have hfd : ∀ w : World, (Instr.field 118 (.agg #[.int .i64 y0, .int .i64 y1, .int .i64 y2]) 1).run Tryz.prog w = .ok (.int .i64 y1) w := fun w => field_prev _ _ _ w
        clear hat0
        by_cases hp : S2 (m * 3 + 1) = 0
        · have hy : y1 = -1 := by rw [HY1.out, hp]; rfl
          subst hy
          have hq : (S2, (m : Int), 5) = seekL (M1).lk x := by unfold seekL; rw [if_neg HEQ.out.1, if_neg (by rw [← HLV.out]; decide), HEQ.out.2.2, HEQ.out.2.1, ← HS2.out, if_pos hp]
          have HFIN := Lib.hid (fun W (b : Below w7.heap.size w7 W) => HLF.out W _ _ _ hq ⟨X6, H8.out.new b⟩)
          clear hq HLF hp
          go_upto_region 34 with (fail)
          go_still_tail 8, (by kernel_rfl)
          change wpList _ _ _ _ _ w7.drew
          go_wp2_with (go_at_call 33; refine HAT.out.mono ?_; rintro e w8 ⟨rfl, hb8⟩; have HB8 := Lib.hid hb8; clear hb8)
          (try simp only [Exit.noGoto])
          go_ret
          exact HFIN.out _ (Below.trans (Below.refl _ _).drew HB8.out)
        · have hy : (y1 == -1) = false := by rw [HY1.out, beq_eq_false_iff_ne]; omega
          have hq : ((S5.cutO S2 (hdO x) (some m)).1, (m : Int), 6) = seekL (M1).lk x := by unfold seekL; rw [if_neg HEQ.out.1, if_neg (by rw [← HLV.out]; decide), HEQ.out.2.2, HEQ.out.2.1, ← HS2.out, if_neg hp]
          have HFIN := Lib.hid (fun W => HLF.out W _ _ _ hq)
          clear hq HLF hp
          go_upto_region 34 with (fail)
          go_still_tail 8, (by kernel_rfl)
          change wpList _ _ _ _ _ w7.drew
          go_upto_region 36 with (go_at_call 33; refine HAT.out.mono ?_; rintro e w8 ⟨rfl, hb8⟩; have H9 := Lib.hid (H8.out.new ((Below.refl _ _).drew.trans hb8)); clear hb8)
          clear e2 e3 e4 e5
          have e5 := H9.out.b5; have e4 := H9.out.b4; have e3 := H9.out.pg.c.2.2.1
          replace e4 : w8.cell? ⟨B, 4, none⟩ = some (.int .i64 hv) := by rw [HHV.out, ← HU.out.2]; exact e4
          have hct : Calls Tryz.prog 204 #[Pw X6.lB, .int .i64 hv, .int .i64 (m : Int)] w8.drew fun e w' => (∃ v, e = .returned (.int .i64 v)) ∧ ∃ X', Pg w0 w' base WB (((M1).link S2).link (S5.cutO S2 (hdO x) (some m)).1) ((r ++ [blockP Q (.cells #[.bool K.l, .bool K.q, .int .i64 K.h] 299)]).set j (freeP B { (K.says x : Fr) with t := (m : Int) })) X' ∧ X'.lB = X6.lB := by
            rw [HHV.out]
            exact (pg_cut (H9.out.new (Below.refl _ _).drew).pg (num_head x) (show S5.Num (m : Int) (some m) from ⟨rfl, HM.out⟩)).mono (fun e w' h => ⟨⟨_, h.1⟩, h.2⟩)
          have HCT := Lib.hid hct
          clear hct
          go_still_tail 13, (by kernel_rfl)
          change wpList _ _ _ _ _ w8.drew
          go_wp2_with (go_at_call 204; refine HCT.out.mono ?_; rintro e w9 ⟨⟨cv, rfl⟩, X9, h9, hlb9⟩; have H10 := Lib.hid h9; clear h9 hlb9)
          (try simp only [Exit.noGoto])
          go_ret
          exact HFIN.out _ ⟨X9, H10.out, H9.out.hj⟩
end
end Go.Proofs.YtdodloannlfnlaaGreat.S14
namespace Go.Proofs.YtdodloannlfnlaaGreat.S14
open Go.Proofs.YtdodloannlfnlaaGreat Go.Proofs.YtdodloannlfnlaaGreat.S11 Go.Proofs.YtdodloannlfnlaaGreat.S12 Go.Proofs.YtdodloannlfnlaaGreat.S13
open Go.RowKit

section
variable {w0 w w' : World} {base WB : Nat} {M : Sd} {r : List Part} {j B : Nat} {K : Fr} {X : Wm}
set_option maxRecDepth 100000 in
set_option maxHeartbeats 8000000 in
theorem beh6 (h : Wf w0 w base WB M r j B K X) (ok : FrOk M K) (hl : K.ln = 6) : Calls Tryz.prog 198 #[Pw B, Pw WB] w (Behind w0 base WB M r j B K) := by
  have hj := h.hj
  have c0 := h.b0
  rw [hl] at c0
  have c2 := h.b2; have c3 := h.b3; have c4 := h.b4
  have hA := h.pushB (.cells #[.bool K.l, .bool K.q, .int .i64 K.h] 299)
  obtain ⟨Q, hQ⟩ : ∃ Q, Q = w.heap.size := ⟨_, rfl⟩
  rw [← hQ] at hA
  have HA := Lib.hid hA; have HJ := Lib.hid hj; have HQ := Lib.hid hQ; have HOK := Lib.hid ok; have HL := Lib.hid hl
  clear h hj hA hQ ok hl
  go_enter Tryz.func198, Tryz.ntmps198
  go_wp2_with fail
  refine wp_scope_two rfl rfl ?_
  go_upto_region 3 with (fail)
  rw [← HQ.out]
  generalize w.alloc (.cells #[.bool K.l, .bool K.q, .int .i64 K.h] 299) = w1 at *
  clear c0 c2 c3 c4
  have c0 := HA.out.b0
  rw [HL.out] at c0
  have hput : ∀ W, Calls Tryz.prog 171 #[.agg #[.bool false, .bool true, .int .i64 (-1)]] W fun e w' => e = .returned (.int .u64 2) ∧ Below W.heap.size W w' := fun W => by
    have := S1.putU_any false true (-1) (by unfold S1.isHead; omega) W
    rwa [show S1.putU false true (-1) = 2 by decide] at this
  have HPT := Lib.hid hput
  have hnd : ∀ W, Wf w0 W base WB M (r ++ [blockP Q (.cells #[.bool K.l, .bool K.q, .int .i64 K.h] 299)]) j B K X → Calls Tryz.prog 201 #[Pw X.cB, .int .u32 (K.a : Int), .int .u64 18446744073709551613] W fun e w' => (∃ v, e = .returned v) ∧ ∃ X', Wf w0 w' base WB (M.acc 6 K.a (S2.look M.L K.a &&& 18446744073709551613)) (r ++ [blockP Q (.cells #[.bool K.l, .bool K.q, .int .i64 K.h] 299)]) j B K X' ∧ X'.cB = X.cB := fun W hW => by
    have h1 := pg_and hW.pg HOK.out.a (v := 18446744073709551613) (by omega) HOK.out.n
    rw [show ((18446744073709551613 : Nat) : Int) = 18446744073709551613 from rfl] at h1
    exact h1.mono (fun e w' h => ⟨⟨_, h.1⟩, by obtain ⟨_, X', h2, h3⟩ := h; exact ⟨X', ⟨h2, hW.hj⟩, h3⟩⟩)
  have HND := Lib.hid hnd
  have hx0 := HA.out.cells
  have HX0 := Lib.hid hx0
  clear hput hnd
  go_upto_region 24 with (fail)
  clear c0
  refine wp_region_held_drew (S := fun w' => w'.cell? ⟨WB, 0, none⟩ = some (Pw X.cB) ∧ w'.cell? ⟨B, 1, none⟩ = some (.int .u32 (K.a : Int))) (by kernel_rfl) ?_ (fun hHeld => ?_)
  · exact HX0.out
  refine wpAnyH_take (i := 0) (oi := ({ dst := some 82, op := Op.move (Operand.tmp 1), type := 22, pos := "wordfrees.go:94", after := #[], guard := none } : Oper)) (v := ?vnm1) rfl (by kernel_rfl) (by kernel_rfl) (by kernel_rfl) (fun _ _ _ h => h) (Or.inl ⟨by rfl, fun w hSw => ?hynm1⟩) (by assumption) ?rnm1
  case hynm1 => (try dsimp only at hSw); go_simp; (try with_reducible rfl)
  (try simp only [Act.put, List.setIfInBounds_toArray, List.set_cons_zero, List.set_cons_succ])
  refine wpAnyH_take (i := 1) (oi := ({ dst := some 83, op := Op.nilCheck (Operand.tmp 82), type := 0, pos := "wordfrees.go:94", after := #[{ on := 0, ground := Ground.data }], guard := none } : Oper)) (v := ?vnm2) rfl (by kernel_rfl) (by kernel_rfl) (by kernel_rfl) (fun _ _ _ h => h) (Or.inl ⟨by rfl, fun w hSw => ?hynm2⟩) (by assumption) ?rnm2
  case hynm2 => (try dsimp only at hSw); go_simp; (try with_reducible rfl)
  (try simp only [Act.put, List.setIfInBounds_toArray, List.set_cons_zero, List.set_cons_succ])
  refine wpAnyH_take (i := 2) (oi := ({ dst := some 84, op := Op.fieldAddr 60 (Operand.tmp 83) 0, type := 0, pos := "wordfrees.go:94", after := #[{ on := 1, ground := Ground.data }], guard := none } : Oper)) (v := ?vnm3) rfl (by kernel_rfl) (by kernel_rfl) (by kernel_rfl) (fun _ _ _ h => h) (Or.inl ⟨by rfl, fun w hSw => ?hynm3⟩) (by assumption) ?rnm3
  case hynm3 => (try dsimp only at hSw); go_simp; (try with_reducible rfl)
  (try simp only [Act.put, List.setIfInBounds_toArray, List.set_cons_zero, List.set_cons_succ])
  refine wpAnyH_take (i := 3) (oi := ({ dst := some 85, op := Op.load 52 (Operand.tmp 84), type := 52, pos := "wordfrees.go:94", after := #[{ on := 2, ground := Ground.data }], guard := none } : Oper)) (v := ?vnm4) rfl (by kernel_rfl) (by kernel_rfl) (by kernel_rfl) (fun _ _ _ h => h) (Or.inl ⟨by rfl, fun w hSw => ?hynm4⟩) (by assumption) ?rnm4
  case hynm4 => (try dsimp only at hSw); go_simp; (try with_reducible rfl)
  (try simp only [Act.put, List.setIfInBounds_toArray, List.set_cons_zero, List.set_cons_succ])
  refine wpAnyH_take (i := 4) (oi := ({ dst := some 86, op := Op.move (Operand.tmp 0), type := 312, pos := "wordfrees.go:94", after := #[], guard := none } : Oper)) (v := ?vnm5) rfl (by kernel_rfl) (by kernel_rfl) (by kernel_rfl) (fun _ _ _ h => h) (Or.inl ⟨by rfl, fun w hSw => ?hynm5⟩) (by assumption) ?rnm5
  case hynm5 => (try dsimp only at hSw); go_simp; (try with_reducible rfl)
  (try simp only [Act.put, List.setIfInBounds_toArray, List.set_cons_zero, List.set_cons_succ])
  refine wpAnyH_take (i := 5) (oi := ({ dst := some 87, op := Op.nilCheck (Operand.tmp 86), type := 0, pos := "wordfrees.go:94", after := #[{ on := 4, ground := Ground.data }], guard := none } : Oper)) (v := ?vnm6) rfl (by kernel_rfl) (by kernel_rfl) (by kernel_rfl) (fun _ _ _ h => h) (Or.inl ⟨by rfl, fun w hSw => ?hynm6⟩) (by assumption) ?rnm6
  case hynm6 => (try dsimp only at hSw); go_simp; (try with_reducible rfl)
  (try simp only [Act.put, List.setIfInBounds_toArray, List.set_cons_zero, List.set_cons_succ])
  refine wpAnyH_take (i := 6) (oi := ({ dst := some 88, op := Op.fieldAddr 318 (Operand.tmp 87) 1, type := 0, pos := "wordfrees.go:94", after := #[{ on := 5, ground := Ground.data }], guard := none } : Oper)) (v := ?vnm7) rfl (by kernel_rfl) (by kernel_rfl) (by kernel_rfl) (fun _ _ _ h => h) (Or.inl ⟨by rfl, fun w hSw => ?hynm7⟩) (by assumption) ?rnm7
  case hynm7 => (try dsimp only at hSw); go_simp; (try with_reducible rfl)
  (try simp only [Act.put, List.setIfInBounds_toArray, List.set_cons_zero, List.set_cons_succ])
  refine wpAnyH_take (i := 7) (oi := ({ dst := some 89, op := Op.load 72 (Operand.tmp 88), type := 72, pos := "wordfrees.go:94", after := #[{ on := 6, ground := Ground.data }], guard := none } : Oper)) (v := ?vnm8) rfl (by kernel_rfl) (by kernel_rfl) (by kernel_rfl) (fun _ _ _ h => h) (Or.inl ⟨by rfl, fun w hSw => ?hynm8⟩) (by assumption) ?rnm8
  case hynm8 => (try dsimp only at hSw); go_simp; (try with_reducible rfl)
  (try simp only [Act.put, List.setIfInBounds_toArray, List.set_cons_zero, List.set_cons_succ])
  refine wpAnyH_take (i := 8) (oi := ({ dst := some 90, op := Op.build 299 #[(1, Operand.const (Value.bool true)), (2, Operand.const (Value.int IntKind.i64 (-1)))], type := 299, pos := "wordfrees.go:94", after := #[], guard := none } : Oper)) (v := ?vnm9) rfl (by kernel_rfl) (by kernel_rfl) (by kernel_rfl) (fun _ _ _ h => h) (Or.inl ⟨by rfl, fun w hSw => ?hynm9⟩) (by assumption) ?rnm9
  case hynm9 => (try dsimp only at hSw); go_simp; (try with_reducible rfl)
  (try simp only [Act.put, List.setIfInBounds_toArray, List.set_cons_zero, List.set_cons_succ])
  refine wpAnyH_ready (rs := [9]) (by kernel_rfl) (by simp) ?_
  refine AllReadyH.cons (o := ({ dst := some 91, op := Op.call { callee := Callee.value (Operand.func 171), args := #[Operand.tmp 90], argTypes := #[299] }, type := 27, pos := "wordfrees.go:94", after := #[{ on := 8, ground := Ground.data }], guard := none } : Oper)) rfl (fun Kq hKq => ?_) AllReadyH.nil
  go_simp
  (refine (HPT.out _).mono ?_; rintro e w4 ⟨rfl, hb4⟩; have H4 := Lib.hid ((HA.out.new (Below.refl _ _).drew).new hb4); clear hb4)
  refine hKq.out _ _ ?_ (fun hHeld => ?_)
  · exact H4.out.cells
  clear hKq Kq
  (try simp only [Act.put, List.setIfInBounds_toArray, List.set_cons_zero, List.set_cons_succ])
  refine wpAnyH_take (i := 10) (oi := ({ dst := some 92, op := Op.unOp UnOp.xor 27 (Operand.tmp 91), type := 27, pos := "wordfrees.go:94", after := #[{ on := 9, ground := Ground.data }], guard := none } : Oper)) (v := ?vnm10) rfl (by kernel_rfl) (by kernel_rfl) (by kernel_rfl) (fun _ _ _ h => h) (Or.inl ⟨by rfl, fun w hSw => ?hynm10⟩) (by assumption) ?rnm10
  case hynm10 => (try dsimp only at hSw); go_simp; (try with_reducible rfl)
  (try simp only [Act.put, List.setIfInBounds_toArray, List.set_cons_zero, List.set_cons_succ])
  refine wpAnyH_ready (rs := [11]) (by kernel_rfl) (by simp) ?_
  refine AllReadyH.cons (o := ({ dst := some 93, op := Op.call { callee := Callee.value (Operand.func 201), args := #[Operand.tmp 85, Operand.tmp 89, Operand.tmp 92], argTypes := #[52, 72, 27] }, type := 27, pos := "wordfrees.go:94", after := #[{ on := 3, ground := Ground.data }, { on := 7, ground := Ground.data }, { on := 10, ground := Ground.data }, { on := 9, ground := Ground.chain }], guard := none } : Oper)) rfl (fun Kq hKq => ?_) AllReadyH.nil
  go_simp
  (refine (HND.out w4 H4.out).mono ?_; rintro e w5 ⟨⟨av, rfl⟩, X5, h5, hcb5⟩; have H5 := Lib.hid h5; have HCB5 := Lib.hid hcb5; clear h5 hcb5)
  refine hKq.out _ _ ?_ (fun hHeld => ?_)
  · (have q := H5.out.cells; rw [HCB5.out] at q; exact q)
  clear hKq Kq
  (try simp only [Act.put, List.setIfInBounds_toArray, List.set_cons_zero, List.set_cons_succ])
  refine wpAnyH_done (by kernel_rfl) ?_ _
  have hfin : Behind w0 base WB M r j B K (.returned (.int .u8 (7 : Int))) w5 := by
    unfold Behind
    rw [show fstepM M K = _ from by simp only [fstepM, HL.out]; rfl, show fstepK M K = _ from by simp only [fstepK, HL.out]; rfl]
    exact ⟨rfl, X5, H5.out.dropB HJ.out⟩
  have HF := Lib.hid hfin
  clear hfin hHeld hx0
  go_wp2_with fail
  (try simp only [to2])
  go_ret
  exact HF.out
end
end Go.Proofs.YtdodloannlfnlaaGreat.S14
namespace Go.Proofs.YtdodloannlfnlaaGreat.S14
open Go.Proofs.YtdodloannlfnlaaGreat Go.Proofs.YtdodloannlfnlaaGreat.S11 Go.Proofs.YtdodloannlfnlaaGreat.S12 Go.Proofs.YtdodloannlfnlaaGreat.S13
open Go.RowKit

section
variable {w0 w w' : World} {base WB : Nat} {M : Sd} {r : List Part} {j B : Nat} {K : Fr} {X : Wm}
set_option maxRecDepth 100000 in
set_option maxHeartbeats 8000000 in
theorem beh7 (h : Wf w0 w base WB M r j B K X) (ok : FrOk M K) (hl : K.ln = 7) : Calls Tryz.prog 198 #[Pw B, Pw WB] w (Behind w0 base WB M r j B K) := by
  have hj := h.hj
  have c0 := h.b0
  rw [hl] at c0
  have c2 := h.b2; have c3 := h.b3; have c4 := h.b4
  have hA := h.pushB (.cells #[.bool K.l, .bool K.q, .int .i64 K.h] 299)
  obtain ⟨Q, hQ⟩ : ∃ Q, Q = w.heap.size := ⟨_, rfl⟩
  rw [← hQ] at hA
  have HA := Lib.hid hA; have HJ := Lib.hid hj; have HQ := Lib.hid hQ; have HOK := Lib.hid ok; have HL := Lib.hid hl
  clear h hj hA hQ ok hl
  go_enter Tryz.func198, Tryz.ntmps198
  go_wp2_with fail
  refine wp_scope_two rfl rfl ?_
  go_upto_region 3 with (fail)
  rw [← HQ.out]
  generalize w.alloc (.cells #[.bool K.l, .bool K.q, .int .i64 K.h] 299) = w1 at *
  clear c0 c2 c3 c4
  have c0 := HA.out.b0
  rw [HL.out] at c0
  obtain ⟨t0, t1⟩ := HOK.out.t (by rw [HL.out]; omega)
  obtain ⟨tn, htn⟩ := Int.eq_ofNat_of_zero_le t0
  have htl : tn < 64 := by omega
  have HWD := Lib.hid (fun W => word_any tn htl W)
  have hun : ∀ W, Wf w0 W base WB M (r ++ [blockP Q (.cells #[.bool K.l, .bool K.q, .int .i64 K.h] 299)]) j B K X → Calls Tryz.prog 202 #[Pw X.pB, .int .i64 ((2 * tn + 1 : Nat) : Int)] W fun e w' => e = .returned (.tuple #[]) ∧ ∃ X', Wf w0 w' base WB (M.unpark (2 * tn + 1)) (r ++ [blockP Q (.cells #[.bool K.l, .bool K.q, .int .i64 K.h] 299)]) j B K X' ∧ X'.pB = X.pB := fun W hW =>
    (hW.pg.unpark HOK.out.pn (by omega)).mono (fun e w' h => ⟨h.1, by obtain ⟨_, X', h2, h3⟩ := h; exact ⟨X', ⟨h2, hW.hj⟩, h3⟩⟩)
  have HUN := Lib.hid hun
  have hx2 := HA.out.pg.c.2.1; have hx5 := HA.out.b5
  rw [htn] at hx5
  have HX0 := Lib.hid (And.intro hx2 hx5)
  have HTN := Lib.hid htn
  clear hun t0 t1 htn htl hx2 hx5
  go_upto_region 4 with (fail)
  clear c0
  refine wp_region_held_drew (S := fun w' => w'.cell? ⟨WB, 2, none⟩ = some (Pw X.pB) ∧ w'.cell? ⟨B, 5, none⟩ = some (.int .i64 (tn : Int))) (by kernel_rfl) ?_ (fun hHeld => ?_)
  · exact HX0.out
  refine wpAnyH_take (i := 0) (oi := ({ dst := some 18, op := Op.move (Operand.tmp 1), type := 22, pos := "wordfrees.go:97", after := #[], guard := none } : Oper)) (v := ?vum1) rfl (by kernel_rfl) (by kernel_rfl) (by kernel_rfl) (fun _ _ _ h => h) (Or.inl ⟨by rfl, fun w hSw => ?hyum1⟩) (by assumption) ?rum1
  case hyum1 => (try dsimp only at hSw); go_simp; (try with_reducible rfl)
  (try simp only [Act.put, List.setIfInBounds_toArray, List.set_cons_zero, List.set_cons_succ])
  refine wpAnyH_take (i := 1) (oi := ({ dst := some 19, op := Op.nilCheck (Operand.tmp 18), type := 0, pos := "wordfrees.go:97", after := #[{ on := 0, ground := Ground.data }], guard := none } : Oper)) (v := ?vum2) rfl (by kernel_rfl) (by kernel_rfl) (by kernel_rfl) (fun _ _ _ h => h) (Or.inl ⟨by rfl, fun w hSw => ?hyum2⟩) (by assumption) ?rum2
  case hyum2 => (try dsimp only at hSw); go_simp; (try with_reducible rfl)
  (try simp only [Act.put, List.setIfInBounds_toArray, List.set_cons_zero, List.set_cons_succ])
  refine wpAnyH_take (i := 2) (oi := ({ dst := some 20, op := Op.fieldAddr 60 (Operand.tmp 19) 2, type := 0, pos := "wordfrees.go:97", after := #[{ on := 1, ground := Ground.data }], guard := none } : Oper)) (v := ?vum3) rfl (by kernel_rfl) (by kernel_rfl) (by kernel_rfl) (fun _ _ _ h => h) (Or.inl ⟨by rfl, fun w hSw => ?hyum3⟩) (by assumption) ?rum3
  case hyum3 => (try dsimp only at hSw); go_simp; (try with_reducible rfl)
  (try simp only [Act.put, List.setIfInBounds_toArray, List.set_cons_zero, List.set_cons_succ])
  refine wpAnyH_take (i := 3) (oi := ({ dst := some 21, op := Op.load 54 (Operand.tmp 20), type := 54, pos := "wordfrees.go:97", after := #[{ on := 2, ground := Ground.data }], guard := none } : Oper)) (v := ?vum4) rfl (by kernel_rfl) (by kernel_rfl) (by kernel_rfl) (fun _ _ _ h => h) (Or.inl ⟨by rfl, fun w hSw => ?hyum4⟩) (by assumption) ?rum4
  case hyum4 => (try dsimp only at hSw); go_simp; (try with_reducible rfl)
  (try simp only [Act.put, List.setIfInBounds_toArray, List.set_cons_zero, List.set_cons_succ])
  refine wpAnyH_take (i := 4) (oi := ({ dst := some 22, op := Op.move (Operand.tmp 5), type := 320, pos := "wordfrees.go:97", after := #[], guard := none } : Oper)) (v := ?vum5) rfl (by kernel_rfl) (by kernel_rfl) (by kernel_rfl) (fun _ _ _ h => h) (Or.inl ⟨by rfl, fun w hSw => ?hyum5⟩) (by assumption) ?rum5
  case hyum5 => (try dsimp only at hSw); go_simp; (try with_reducible rfl)
  (try simp only [Act.put, List.setIfInBounds_toArray, List.set_cons_zero, List.set_cons_succ])
  refine wpAnyH_take (i := 5) (oi := ({ dst := some 23, op := Op.nilCheck (Operand.tmp 22), type := 0, pos := "wordfrees.go:97", after := #[{ on := 4, ground := Ground.data }], guard := none } : Oper)) (v := ?vum6) rfl (by kernel_rfl) (by kernel_rfl) (by kernel_rfl) (fun _ _ _ h => h) (Or.inl ⟨by rfl, fun w hSw => ?hyum6⟩) (by assumption) ?rum6
  case hyum6 => (try dsimp only at hSw); go_simp; (try with_reducible rfl)
  (try simp only [Act.put, List.setIfInBounds_toArray, List.set_cons_zero, List.set_cons_succ])
  refine wpAnyH_take (i := 6) (oi := ({ dst := some 24, op := Op.fieldAddr 316 (Operand.tmp 23) 1, type := 0, pos := "wordfrees.go:97", after := #[{ on := 5, ground := Ground.data }], guard := none } : Oper)) (v := ?vum7) rfl (by kernel_rfl) (by kernel_rfl) (by kernel_rfl) (fun _ _ _ h => h) (Or.inl ⟨by rfl, fun w hSw => ?hyum7⟩) (by assumption) ?rum7
  case hyum7 => (try dsimp only at hSw); go_simp; (try with_reducible rfl)
  (try simp only [Act.put, List.setIfInBounds_toArray, List.set_cons_zero, List.set_cons_succ])
  refine wpAnyH_take (i := 7) (oi := ({ dst := some 25, op := Op.load 3 (Operand.tmp 24), type := 3, pos := "wordfrees.go:97", after := #[{ on := 6, ground := Ground.data }], guard := none } : Oper)) (v := ?vum8) rfl (by kernel_rfl) (by kernel_rfl) (by kernel_rfl) (fun _ _ _ h => h) (Or.inl ⟨by rfl, fun w hSw => ?hyum8⟩) (by assumption) ?rum8
  case hyum8 => (try dsimp only at hSw); go_simp; (try with_reducible rfl)
  (try simp only [Act.put, List.setIfInBounds_toArray, List.set_cons_zero, List.set_cons_succ])
  refine wpAnyH_ready (rs := [8]) (by kernel_rfl) (by simp) ?_
  refine AllReadyH.cons (o := ({ dst := some 26, op := Op.call { callee := Callee.value (Operand.func 181), args := #[Operand.tmp 25], argTypes := #[3] }, type := 3, pos := "wordfrees.go:97", after := #[{ on := 7, ground := Ground.data }], guard := none } : Oper)) rfl (fun Kq hKq => ?_) AllReadyH.nil
  go_simp
  (refine (HWD.out _).mono ?_; rintro e w4 ⟨rfl, rfl⟩)
  refine hKq.out _ _ ?_ (fun hHeld => ?_)
  · exact HX0.out
  clear hKq Kq
  (try simp only [Act.put, List.setIfInBounds_toArray, List.set_cons_zero, List.set_cons_succ])
  refine wpAnyH_ready (rs := [9]) (by kernel_rfl) (by simp) ?_
  refine AllReadyH.cons (o := ({ dst := some 27, op := Op.call { callee := Callee.value (Operand.func 202), args := #[Operand.tmp 21, Operand.tmp 26], argTypes := #[54, 3] }, type := 0, pos := "wordfrees.go:97", after := #[{ on := 3, ground := Ground.data }, { on := 8, ground := Ground.data }, { on := 8, ground := Ground.chain }], guard := none } : Oper)) rfl (fun Kq hKq => ?_) AllReadyH.nil
  go_simp
  (refine (HUN.out _ (HA.out.new (Below.refl _ _).drew)).mono ?_; rintro e w5 ⟨rfl, X5, h5, hpb5⟩; have H5 := Lib.hid h5; have HPB5 := Lib.hid hpb5; clear h5 hpb5)
  refine hKq.out _ _ ?_ (fun hHeld => ?_)
  · (have q2 := H5.out.pg.c.2.1; have q5 := H5.out.b5; rw [HPB5.out] at q2; rw [HTN.out] at q5; exact ⟨q2, q5⟩)
  clear hKq Kq
  (try simp only [Act.put, List.setIfInBounds_toArray, List.set_cons_zero, List.set_cons_succ])
  refine wpAnyH_done (by kernel_rfl) ?_ _
  have hfin : Behind w0 base WB M r j B K (.returned (.int .u8 (0 : Int))) w5 := by
    unfold Behind
    rw [show fstepM M K = _ from by simp only [fstepM, HL.out]; rfl, show fstepK M K = _ from by simp only [fstepK, HL.out]; rfl, show K.t.toNat = tn by rw [HTN.out]; rfl]
    exact ⟨rfl, X5, H5.out.dropB HJ.out⟩
  have HF := Lib.hid hfin
  clear hfin hHeld
  go_wp2_with fail
  (try simp only [to2])
  go_ret
  exact HF.out
end
end Go.Proofs.YtdodloannlfnlaaGreat.S14
namespace Go.Proofs.YtdodloannlfnlaaGreat.S14
open Go.Proofs.YtdodloannlfnlaaGreat Go.Proofs.YtdodloannlfnlaaGreat.S11 Go.Proofs.YtdodloannlfnlaaGreat.S12 Go.Proofs.YtdodloannlfnlaaGreat.S13
open Go.RowKit

structure FOk (K : Fr) : Prop where
  a : K.a < 4294967296
  w : K.w < 18446744073709551616
  con : 3 ≤ K.ln → K.ln ≤ 5 → K.l = S1.bitB K.w 0 ∧ K.q = S1.bitB K.w 1 ∧ K.h = S1.headN K.w ∧ S1.headN K.w ≠ -1
  t : 4 ≤ K.ln → 0 ≤ K.t ∧ K.t ≤ 63
  ln : K.ln ≤ 7
theorem FOk.ok {M : Sd} {K : Fr} (h : FOk K) (hn : M.n ≤ 1000000000) (hp : M.pn ≤ 1000000000) : FrOk M K := ⟨h.a, h.w, h.con, h.t, hn, hp⟩
theorem fok_new {a : Nat} (ha : a < 4294967296) : FOk (fr0 a) := ⟨ha, by show 0 < _; omega, fun h => absurd h (by show ¬ 3 ≤ 1; omega), fun h => absurd h (by show ¬ 4 ≤ 1; omega), by show 1 ≤ 7; omega⟩
theorem seekL_facts {S : S5.Lk} (h : ∀ i, S i ≤ 64) (u : Nat) : (seekL S u).2.2 = 0 ∨ ((4 ≤ (seekL S u).2.2 ∧ (seekL S u).2.2 ≤ 6) ∧ (0 ≤ (seekL S u).2.1 ∧ (seekL S u).2.1 ≤ 63) ∧ S1.headN u ≠ -1) := by
  have hle := (seekO_le h u).1
  by_cases h0 : (S5.seekO S (hdO u)).2 = 0
  · left; unfold seekL; rw [if_pos h0]
  · right
    have hh : S1.headN u ≠ -1 := by
      intro e
      apply h0
      have hn : hdO u = none := by
        unfold hdO
        unfold S1.headN at e
        split at e
        · omega
        · rename_i hu; rw [if_neg hu]
      rw [hn]; rfl
    refine ⟨?_, ?_, hh⟩
    · unfold seekL
      rw [if_neg h0]
      split
      · exact ⟨Nat.le_refl 4, by show 4 ≤ 6; omega⟩
      · split
        · exact ⟨by show 4 ≤ 5; omega, by show 5 ≤ 6; omega⟩
        · exact ⟨by show 4 ≤ 6; omega, Nat.le_refl 6⟩
    · have ht : (seekL S u).2.1 = ((S5.seekO S (hdO u)).2 : Int) - 1 := by
        unfold seekL
        rw [if_neg h0]
        split
        · rfl
        · split <;> rfl
      rw [ht]
      omega
theorem fok_look {K : Fr} (h : FOk K) {x : Nat} (hx : x < 18446744073709551616) : FOk ((K.says x).look) := by
  refine ⟨h.a, hx, fun h3 _ => ?_, fun h4 => ?_, ?_⟩
  · refine ⟨rfl, rfl, rfl, fun e => ?_⟩
    have e' : S1.headN x = -1 := e
    have hi : idle x = true := by unfold idle; rw [decide_eq_true e', Bool.or_true]
    have : ((K.says x).look).ln = 0 := by show (if idle x = true then 0 else 3) = 0; rw [if_pos hi]
    omega
  · exfalso
    have : ((K.says x).look).ln ≤ 3 := by show (if idle x = true then 0 else 3) ≤ 3; split <;> omega
    omega
  · have : ((K.says x).look).ln ≤ 3 := by show (if idle x = true then 0 else 3) ≤ 3; split <;> omega
    omega
theorem fok_seek {K : Fr} (ha : K.a < 4294967296) (hw : K.w < 18446744073709551616) (hc : K.l = S1.bitB K.w 0 ∧ K.q = S1.bitB K.w 1 ∧ K.h = S1.headN K.w) {S : S5.Lk} (hk : ∀ i, S i ≤ 64) : FOk (K.seek S) := by
  have hf := seekL_facts hk K.w
  have e1 : (K.seek S).ln = (seekL S K.w).2.2 := rfl
  have e2 : (K.seek S).t = (seekL S K.w).2.1 := rfl
  refine ⟨ha, hw, fun h3 _ => ?_, fun h4 => ?_, ?_⟩
  · rcases hf with h | ⟨_, _, h⟩
    · omega
    · exact ⟨hc.1, hc.2.1, hc.2.2, h⟩
  · rcases hf with h | ⟨_, h, _⟩
    · omega
    · rw [e2]; exact h
  · omega
theorem FOk.step {M : Sd} {K : Fr} (h : FOk K) (hl : ∀ a, S2.look M.L a < 18446744073709551616) (hk : ∀ i, M.lk i ≤ 64) : FOk (fstepK M K) := by
  have hx := hl K.a
  rcases (show K.ln = 0 ∨ K.ln = 1 ∨ K.ln = 2 ∨ K.ln = 3 ∨ K.ln = 4 ∨ K.ln = 5 ∨ K.ln = 6 ∨ K.ln = 7 by have := h.ln; omega) with e | e | e | e | e | e | e | e
  · have : fstepK M K = K := by unfold fstepK; rw [e]; rfl
    rw [this]; exact h
  · have : fstepK M K = { K with ln := if idle (S2.look M.L K.a) = true then 0 else 2, l := S1.bitB (S2.look M.L K.a) 0, q := S1.bitB (S2.look M.L K.a) 1, h := S1.headN (S2.look M.L K.a) } := by unfold fstepK; rw [e]; rfl
    rw [this]
    have h2 : (if idle (S2.look M.L K.a) = true then 0 else 2) ≤ 2 := by split <;> omega
    exact ⟨h.a, h.w, fun h3 _ => absurd h3 (by show ¬ 3 ≤ (if idle (S2.look M.L K.a) = true then 0 else 2); omega), fun h4 => absurd h4 (by show ¬ 4 ≤ (if idle (S2.look M.L K.a) = true then 0 else 2); omega), by show (if idle (S2.look M.L K.a) = true then 0 else 2) ≤ 7; omega⟩
  · have : fstepK M K = (K.says (S2.look M.L K.a)).look := by unfold fstepK; rw [e]; rfl
    rw [this]; exact fok_look h hx
  · obtain ⟨c1, c2, c3, c4⟩ := h.con (by omega) (by omega)
    by_cases hc : S2.look M.L K.a = K.w
    · have : fstepK M K = ({ K with q := true, w := wq K.w true } : Fr).seek M.lk := by unfold fstepK; rw [e]; exact if_pos hc
      rw [this]
      exact fok_seek (K := { K with q := true, w := wq K.w true }) h.a (wq_lt _ _) ⟨by rw [(wq_says K.w true).1]; exact c1, (wq_says K.w true).2.1.symm, by rw [(wq_says K.w true).2.2]; exact c3⟩ hk
    · have : fstepK M K = (K.says (S2.look M.L K.a)).look := by unfold fstepK; rw [e]; exact if_neg hc
      rw [this]; exact fok_look h hx
  · by_cases hc : S2.look M.L K.a = K.w
    · have : fstepK M K = { K with ln := 0, q := false } := by unfold fstepK; rw [e]; exact if_pos hc
      rw [this]
      exact ⟨h.a, h.w, fun h3 _ => absurd h3 (by show ¬ 3 ≤ 0; omega), fun h4 => absurd h4 (by show ¬ 4 ≤ 0; omega), by show 0 ≤ 7; omega⟩
    · have : fstepK M K = (K.says (S2.look M.L K.a)).seek M.lk := by unfold fstepK; rw [e]; exact if_neg hc
      rw [this]; exact fok_seek (K := K.says (S2.look M.L K.a)) h.a hx ⟨rfl, rfl, rfl⟩ hk
  · by_cases hc : S2.look M.L K.a = K.w
    · have : fstepK M K = { K with ln := 7, l := false, q := false, h := -1 } := by unfold fstepK; rw [e]; exact if_pos hc
      rw [this]
      exact ⟨h.a, h.w, fun _ h5 => absurd h5 (by show ¬ 7 ≤ 5; omega), fun _ => h.t (by omega), by show 7 ≤ 7; omega⟩
    · have : fstepK M K = (K.says (S2.look M.L K.a)).seek M.lk := by unfold fstepK; rw [e]; exact if_neg hc
      rw [this]; exact fok_seek (K := K.says (S2.look M.L K.a)) h.a hx ⟨rfl, rfl, rfl⟩ hk
  · have : fstepK M K = { K with ln := 7 } := by unfold fstepK; rw [e]; rfl
    rw [this]
    exact ⟨h.a, h.w, fun _ h5 => absurd h5 (by show ¬ 7 ≤ 5; omega), fun _ => h.t (by omega), by show 7 ≤ 7; omega⟩
  · have : fstepK M K = { K with ln := 0 } := by unfold fstepK; rw [e]; rfl
    rw [this]
    exact ⟨h.a, h.w, fun h3 _ => absurd h3 (by show ¬ 3 ≤ 0; omega), fun h4 => absurd h4 (by show ¬ 4 ≤ 0; omega), by show 0 ≤ 7; omega⟩
section
variable {w0 w w' : World} {base WB : Nat} {M : Sd} {r : List Part} {j B : Nat} {K : Fr} {X : Wm}
theorem beh_any (h : Wf w0 w base WB M r j B K X) (ok : FrOk M K) (h0 : K.ln ≠ 0) (h7 : K.ln ≤ 7) : Calls Tryz.prog 198 #[Pw B, Pw WB] w (Behind w0 base WB M r j B K) := by
  rcases (show K.ln = 1 ∨ K.ln = 2 ∨ K.ln = 3 ∨ K.ln = 4 ∨ K.ln = 5 ∨ K.ln = 6 ∨ K.ln = 7 by omega) with e | e | e | e | e | e | e
  · exact beh1 h ok e
  · exact beh2 h ok e
  · exact beh3 h ok e
  · exact beh4 h ok e
  · exact beh5 h ok e
  · exact beh6 h ok e
  · exact beh7 h ok e
theorem step_f (h : Wf w0 w base WB M r j B K X) (ok : FrOk M K) (h7 : K.ln ≤ 7) : Calls Tryz.prog 197 #[Pw B, Pw WB] w fun e w' => e = .returned (.bool (decide ((fstepK M K).ln = 0))) ∧ ∃ X', Wf w0 w' base WB (fstepM M K) r j B (fstepK M K) X' := by
  by_cases h0 : K.ln = 0
  · have e1 : fstepM M K = M := by unfold fstepM; rw [h0]; rfl
    have e2 : fstepK M K = K := by unfold fstepK; rw [h0]; rfl
    rw [e1, e2]
    have hov := over_f h.b0
    rw [decide_eq_true h0] at hov
    have HOV := Lib.hid hov
    have HE := Lib.hid (And.intro (decide_eq_true h0) h)
    clear hov h ok h0 h7 e1 e2
    go_enter Tryz.func197, Tryz.ntmps197
    go_upto_region 3 with (go_at_call 196; refine HOV.out.mono ?_; rintro e w2 ⟨rfl, rfl⟩)
    go_wp2_with (go_at_call 196; refine HOV.out.mono ?_; rintro e w2 ⟨rfl, rfl⟩)
    go_ret
    exact ⟨by rw [HE.out.1]; rfl, X, HE.out.2⟩
  · have hov := over_f h.b0
    rw [decide_eq_false h0] at hov
    have HOV := Lib.hid hov
    have HBH := Lib.hid (beh_any h ok h0 h7)
    clear hov h ok h0 h7
    obtain ⟨n, hn⟩ : ∃ n, n = (fstepK M K).ln := ⟨_, rfl⟩
    rw [← hn]
    have HN := Lib.hid hn
    clear hn
    go_enter Tryz.func197, Tryz.ntmps197
    go_upto_region 2 with (go_at_call 196; refine HOV.out.mono ?_; rintro e w2 ⟨rfl, rfl⟩)
    go_upto_region 3 with (go_at_call 198; refine HBH.out.mono ?_; rintro e w3 ⟨rfl, X3, h3⟩; have H3 := Lib.hid h3; have c0 := h3.b0; have f0 := h3.fz 0; clear h3)
    rw [← HN.out]
    have h4 := H3.out.line n
    generalize w3.setCell ⟨B, 0, none⟩ (.int .u8 (n : Int)) = w4 at *
    have h5 : Wf w0 w4 base WB (fstepM M K) r j B (fstepK M K) X3 := by
      have e : ({ ({ fstepK M K with ln := K.ln } : Fr) with ln := n } : Fr) = fstepK M K := by rw [HN.out]
      rw [e] at h4; exact h4
    have hov2 := over_f h5.b0
    rw [← HN.out] at hov2
    have HOV2 := Lib.hid hov2; have H5 := Lib.hid h5
    clear hov2 h4 h5 c0 f0 H3 HOV HBH
    go_wp2_with (go_at_call 196; refine HOV2.out.mono ?_; rintro e w5 ⟨rfl, rfl⟩)
    go_ret
    exact ⟨rfl, X3, H5.out⟩
end
end Go.Proofs.YtdodloannlfnlaaGreat.S14
namespace Go.Proofs.YtdodloannlfnlaaGreat.S13
open Go.Proofs.YtdodloannlfnlaaGreat Go.Proofs.YtdodloannlfnlaaGreat.S11 Go.Proofs.YtdodloannlfnlaaGreat.S12
open Go.RowKit

def sdN (spin : Int) (most : Nat) : Sd := ⟨L02, 0, 0, 0, 0, 0, 0, most, [], fun _ => S4.pk0, 0, 0, 0, S5.S0, S10.M0 0, [], spin⟩
theorem at0_sd {X : Wm} {spin : Int} {most : Nat} (h : At0 X spin most []) : X.sd = sdN spin most := by
  unfold Wm.sd sdN
  rw [h.L, h.n, h.k, h.a, h.was, h.is, h.T, h.most, h.D, h.pf, h.pn, h.pk, h.pp, h.lk, h.tM, h.nD, h.sp]
theorem pg_of {w0 w : World} {base : Nat} {X : Wm} (h : PW w base X) (b : Below base w0 w) (ht : X.tn ≤ X.n + 1) : Pg w0 w base X.wB X.sd [] X :=
  ⟨by rw [List.append_nil]; exact h, rfl, rfl, b, ht⟩
section
variable {w0 w w' : World} {base WB : Nat} {M : Sd} {r : List Part} {X : Wm}
theorem Pg.add (h : Pg w0 w base WB M r X) (ob : Obj) : Pg w0 (w.alloc ob) base WB M (r ++ [blockP w.heap.size ob]) X := by
  have hp := h.ps.push (blockP w.heap.size ob) (below1 w ob) (heap_alloc_new w ob) (fun k e => Nat.le_of_eq (show k = w.heap.size from e).symm)
  rw [List.append_assoc] at hp
  exact ⟨hp, h.wB, h.xm, h.bl.alloc h.size _, h.tnb⟩
theorem Pg.lock (h : Pg w0 w base WB M r X) (K : Lk) : Wl w0 (w.alloc (.cells K.cs 292)) base WB M (r ++ [lockP w.heap.size K]) r.length w.heap.size K X := by
  refine ⟨?_, by rw [List.length_append]; simp⟩
  rw [List.set_append_right _ _ (Nat.le_refl _), Nat.sub_self]
  exact Pg.add h _
end
set_option maxRecDepth 100000 in
theorem world_any (sp : Nat) (hsp : sp < 256) (w : World) : Calls Tryz.prog 34 #[.int .u8 (sp : Int)] w fun e w' => ∃ X, e = .returned (Pw X.wB) ∧ PW w' w.heap.size X ∧ At0 X ((sp % 17 : Nat) : Int) 5 [] ∧ Below w.heap.size w w' := by
  have hck : ∀ W, Below w.heap.size w W → Calls Tryz.prog 42 #[.slice none 0 0, .int .u64 ((5 : Nat) : Int)] W (S3.Made W 0 5 []) := fun W _ => S3.new_any (D := []) (b2 := 0) 0 5 (Nat.le_refl _) (by omega) (by omega) S3.Rd.nil (Nat.zero_le _) (fun d hd => by cases hd)
  have hok : okC (((sp % 17 : Nat) : Int)) 0 = true := by simp [okC]; omega
  have hnew : Calls Tryz.prog 12 #[.agg #[.int .i64 ((sp % 17 : Nat) : Int), .int .u64 5, .slice none 0 0]] w fun e w' => NewW w w' ((sp % 17 : Nat) : Int) 5 [] e := new_yes _ 5 0 0 none hok hck
  have e1 : (sp : Int).tmod 17 = ((sp % 17 : Nat) : Int) := by rw [Int.tmod_eq_emod_of_nonneg (by omega)]; omega
  have e1' : (sp : Int) % 17 = ((sp % 17 : Nat) : Int) := by omega
  have e2 : IntKind.u8.wrap ((sp % 17 : Nat) : Int) = ((sp % 17 : Nat) : Int) := by rw [IntKind.wrap_u8]; omega
  have e3 : IntKind.i64.wrap ((sp % 17 : Nat) : Int) = ((sp % 17 : Nat) : Int) := by rw [IntKind.wrap_i64]; omega
  have e4 : wrap64 ((sp % 17 : Nat) : Int) = ((sp % 17 : Nat) : Int) := by unfold wrap64; omega
  have e5 : IntKind.i64.wrap (sp : Int) = (sp : Int) := by rw [IntKind.wrap_i64]; omega
  have HN := Lib.hid hnew
  clear hck hok hnew hsp
  generalize sp % 17 = n at *
  go_enter Tryz.func34, Tryz.ntmps34
  go_wp2_with (go_at_call 12; refine HN.out.mono ?_; rintro e w1 ⟨X, rfl, hp, h0, hb⟩)
  go_ret
  exact ⟨X, rfl, hp, h0, hb⟩
def it (p : Sd × Lk) : Sd × Lk := (stepM p.1 p.2, stepK p.1 p.2)
end Go.Proofs.YtdodloannlfnlaaGreat.S13
namespace Go.Proofs.YtdodloannlfnlaaGreat.S14
open Go.Proofs.YtdodloannlfnlaaGreat Go.Proofs.YtdodloannlfnlaaGreat.S11 Go.Proofs.YtdodloannlfnlaaGreat.S12 Go.Proofs.YtdodloannlfnlaaGreat.S13
open Go.RowKit

section
variable {P : Program} {md : Region.Mode} {ops : Array Oper} {Q : Exit → Act → World → Prop} {S S' : World → Prop}
theorem wpAnyH_more' (h : ∀ w, S' w → S w) : ∀ (fuel : Nat) (listed : Array Bool) (a : Act) (w : World), wpAnyH P md ops Q S' fuel listed a w → wpAnyH P md ops Q S fuel listed a w
  | 0, _, _, _, hq => hq
  | fuel + 1, _, _, _, hq => ⟨hq.1, fun i hi => wpOp_mono (fun a' w' h' => ⟨h w' h'.1, wpAnyH_more' h fuel _ a' w' h'.2⟩) (hq.2 i hi)⟩
end
def fit (p : Sd × Fr) : Sd × Fr := (fstepM p.1 p.2, fstepK p.1 p.2)
def fitn (p : Sd × Fr) : Nat → Sd × Fr
  | 0 => p
  | n + 1 => fit (fitn p n)
theorem fstepM_n (M : Sd) (K : Fr) : (fstepM M K).n ≤ M.n + 1 ∧ (fstepM M K).pn ≤ M.pn + 1 := by
  unfold fstepM
  split <;> (try split) <;> simp [Sd.acc, Sd.link, Sd.unpark, Sd.call] <;> omega
theorem fitn_n (p : Sd × Fr) : ∀ n, (fitn p n).1.n ≤ p.1.n + n ∧ (fitn p n).1.pn ≤ p.1.pn + n
  | 0 => ⟨Nat.le_refl _, Nat.le_refl _⟩
  | n + 1 => by
    have h1 := fitn_n p n
    have h2 := fstepM_n (fitn p n).1 (fitn p n).2
    show (fstepM _ _).n ≤ _ ∧ (fstepM _ _).pn ≤ _
    omega
theorem meth_free (a : Addr) (w : World) : (method 422 312 (.pointer (some a)) "Step").run Tryz.prog w = .ok (197, .pointer (some a)) w := by kernel_rfl
section
variable {w0 w w' : World} {base WB : Nat} {M : Sd} {r : List Part} {j B : Nat} {K : Fr} {X : Wm}
theorem Wf.pf (h : Wf w0 w base WB M r j B K X) : X.pf = M.pf := congrArg Sd.pf h.pg.xm
set_option maxRecDepth 100000 in
set_option maxHeartbeats 4000000 in
theorem run_f (h : Wf w0 w base WB M r j B K X) (hk : FOk K) (n most : Nat) (hn0 : 0 < n) (hnm : n ≤ most) (hm : most ≤ 100) (hMn : M.n ≤ 900000000) (hMp : M.pn ≤ 900000000)
    (hpos : ∀ i, i < n → (fitn (M, K) i).2.ln ≠ 0) (hend : (fitn (M, K) n).2.ln = 0) :
    Calls Tryz.prog 35 #[Pw WB, .iface 312 (Pw B), .int .i64 (most : Int)] w fun e w' => e = .returned (.int .i64 (n : Int)) ∧ ∃ X', Wf w0 w' base WB (fitn (M, K) n).1 r j B (fitn (M, K) n).2 X' := by
  have hm1 := meth_free ⟨B, 0, none⟩
  have H := Lib.hid (And.intro h hk); have HP := Lib.hid (And.intro hpos hend); have HB := Lib.hid (And.intro hn0 (And.intro hnm (And.intro hm (And.intro hMn hMp))))
  clear h hk hpos hend hn0 hnm hm hMn hMp
  go_enter Tryz.func35, Tryz.ntmps35
  go_wp2_with fail
  go_loopg [7] n (fun q s7 wx => ∃ i : Nat, i < n ∧ q = n - i ∧ s7 = .int .i64 ((i + 1 : Nat) : Int) ∧ FOk (fitn (M, K) i).2 ∧ ∃ X, Wf w0 wx base WB (fitn (M, K) i).1 r j B (fitn (M, K) i).2 X)
  case atStart => exact ⟨0, HB.out.1, by omega, rfl, H.out.2, X, H.out.1⟩
  case round =>
    obtain ⟨i, hi, rfl, rfl, hok, X2, hw⟩ := hrel
    have hb := fitn_n (M, K) i
    have hst := step_f hw (hok.ok (by have := HB.out; have h1 : (M, K).1.n = M.n := rfl; omega) (by have := HB.out; have h1 : (M, K).1.pn = M.pn := rfl; omega)) hok.ln
    have hok2 := hok.step hw.look (fun k => pg_le hw.pg k)
    have hle : ((i + 1 : Nat) : Int) ≤ (most : Int) := by have := HB.out; omega
    have d1 : decide (((i + 1 : Nat) : Int) ≤ (most : Int)) = true := decide_eq_true hle
    have HOK2 := Lib.hid hok2; have HI := Lib.hid hi
    by_cases he : i + 1 = n
    · have e0 : (fstepK (fitn (M, K) i).1 (fitn (M, K) i).2).ln = 0 := by
        have := HP.out.2
        rw [← he] at this
        exact this
      rw [decide_eq_true e0] at hst
      have HST := Lib.hid hst; have HE := Lib.hid he
      clear hst hw hok hok2 hb e0 he hi
      go_wp2_with (go_at_call 197; refine HST.out.mono ?_; rintro e w6 ⟨rfl, hs⟩)
      go_ret
      obtain ⟨X3, h3⟩ := hs
      refine ⟨by rw [← HE.out]; simp, X3, ?_⟩
      rw [← HE.out]; exact h3
    · have e0 : ¬ (fstepK (fitn (M, K) i).1 (fitn (M, K) i).2).ln = 0 := HP.out.1 (i + 1) (by have := HI.out; omega)
      rw [decide_eq_false e0] at hst
      have HST := Lib.hid hst; have HE := Lib.hid he
      have hm9 : i + 1 ≤ 100 := by have := HB.out; omega
      clear hst hw hok hok2 hb e0 he hi
      go_wp2_with (go_at_call 197; refine HST.out.mono ?_; rintro e w6 ⟨rfl, hs⟩)
      go_roundg (n - (i + 1))
      case measure => have := HI.out; omega
      case rel => exact ⟨i + 1, by have := HI.out; have := HE.out; omega, rfl, by go_num, HOK2.out, hs⟩
end
def qM (M : Sd) (t : Nat) : Sd := (((((M.acc 3 267 (S2.look M.L 267)).prep (2 * t + 1)).link (S5.pushS M.lk (some t) (hdO (S2.look M.L 267)))).acc 3 267 (S1.putU true (S1.bitB (S2.look M.L 267) 1) t)).park (2 * t + 1))
theorem bring267 (v : Nat) : S2.bring 267 v = v := by
  have e : S2.byteB 267 = false := by decide
  unfold S2.bring; rw [e]; rfl
theorem look267 (M : Sd) (k y : Nat) : S2.look (M.acc k 267 y).L 267 = y := by
  show S2.look (S2.putL M.L 267 (S2.bring 267 y)) 267 = y
  rw [S2.look_put_same, bring267]
def qp (M : Sd) (t : Nat) : Nat → Sd × Lk
  | 0 => (M, lk1 t 267)
  | 1 => (M.acc 3 267 (S2.look M.L 267), ⟨4, t, 267, S2.look M.L 267, M.sp⟩)
  | 2 => ((((M.acc 3 267 (S2.look M.L 267)).prep (2 * t + 1)).link (S5.pushS M.lk (some t) (hdO (S2.look M.L 267)))), ⟨5, t, 267, S2.look M.L 267, M.sp⟩)
  | _ => ((((M.acc 3 267 (S2.look M.L 267)).prep (2 * t + 1)).link (S5.pushS M.lk (some t) (hdO (S2.look M.L 267)))).acc 3 267 (S1.putU true (S1.bitB (S2.look M.L 267) 1) t), ⟨6, t, 267, S2.look M.L 267, M.sp⟩)
section
variable {M : Sd} {t : Nat}
theorem bit_ne {u : Nat} (hb : S1.bitB u 0 = true) : u ≠ 0 := by
  intro e; subst e; revert hb; decide
theorem qp_step (hs : M.sp = 0) (hb : S1.bitB (S2.look M.L 267) 0 = true) (i : Nat) (hi : i < 3) : stepM (qp M t i).1 (qp M t i).2 = (qp M t (i + 1)).1 ∧ stepK (qp M t i).1 (qp M t i).2 = (qp M t (i + 1)).2 := by
  obtain ⟨u, hu⟩ : ∃ u, u = S2.look M.L 267 := ⟨_, rfl⟩
  rcases (show i = 0 ∨ i = 1 ∨ i = 2 by omega) with rfl | rfl | rfl
  · have hne : ¬ S2.look M.L 267 = 0 := bit_ne hb
    refine ⟨?_, ?_⟩
    · show M.acc 3 267 (S2.casV (S2.look M.L 267) 0 1) = M.acc 3 267 (S2.look M.L 267)
      rw [S2.casV, if_neg hne]
    · show Lk.cas _ (S2.look M.L 267) 0 _ = _
      unfold Lk.cas
      rw [if_neg hne]
      unfold Lk.turn
      rw [if_neg (by rw [hb]; decide)]
      show (if S1.headN (S2.look M.L 267) = -1 then (if 0 < M.sp then _ else _) else _) = _
      rw [hs]
      split
      · rw [if_neg (by omega)]; rfl
      · rfl
  · exact ⟨rfl, rfl⟩
  · have hl : S2.look ((((M.acc 3 267 (S2.look M.L 267)).prep (2 * t + 1)).link (S5.pushS M.lk (some t) (hdO (S2.look M.L 267))))).L 267 = S2.look M.L 267 := look267 M 3 _
    refine ⟨?_, ?_⟩
    · show Sd.acc _ 3 267 (S2.casV (S2.look ((((M.acc 3 267 (S2.look M.L 267)).prep (2 * t + 1)).link (S5.pushS M.lk (some t) (hdO (S2.look M.L 267))))).L 267) (S2.look M.L 267) (S1.putU (S1.bitB (S2.look M.L 267) 0) (S1.bitB (S2.look M.L 267) 1) t)) = _
      rw [hl, S2.casV, if_pos rfl, hb]; rfl
    · show Lk.cas _ (S2.look ((((M.acc 3 267 (S2.look M.L 267)).prep (2 * t + 1)).link (S5.pushS M.lk (some t) (hdO (S2.look M.L 267))))).L 267) (S2.look M.L 267) _ = _
      rw [hl]
      unfold Lk.cas
      rw [if_pos rfl]; rfl
theorem qp_ln (i : Nat) (hi : i ≤ 3) : (qp M t i).2.ln ≠ 0 ∧ (i < 3 → (qp M t i).2.ln ≠ 6) ∧ (i = 3 → (qp M t i).2.ln = 6) ∧ (qp M t i).2.ln ≤ 6 := by
  rcases (show i = 0 ∨ i = 1 ∨ i = 2 ∨ i = 3 by omega) with rfl | rfl | rfl | rfl
  · exact ⟨by show 1 ≠ 0; omega, fun _ => by show 1 ≠ 6; omega, fun h => by omega, by show 1 ≤ 6; omega⟩
  · exact ⟨by show 4 ≠ 0; omega, fun _ => by show 4 ≠ 6; omega, fun h => by omega, by show 4 ≤ 6; omega⟩
  · exact ⟨by show 5 ≠ 0; omega, fun _ => by show 5 ≠ 6; omega, fun h => by omega, by show 5 ≤ 6; omega⟩
  · exact ⟨by show 6 ≠ 0; omega, fun h => by omega, fun _ => rfl, by show 6 ≤ 6; omega⟩
theorem qp_ok (ht : t < 64) (hs : M.sp = 0) (hl : S2.look M.L 267 < 18446744073709551616) (hn : M.n ≤ 900000000) (hp : M.pn ≤ 900000000) (i : Nat) (hi : i ≤ 3) : LkOk (qp M t i).1 (qp M t i).2 := by
  have hs0 : (0 : Int) ≤ M.sp ∧ M.sp ≤ 16 := by omega
  rcases (show i = 0 ∨ i = 1 ∨ i = 2 ∨ i = 3 by omega) with rfl | rfl | rfl | rfl
  · exact ⟨ht, by show 267 < _; omega, by show 0 < _; omega, ⟨by show (0 : Int) ≤ 0; omega, by show (0 : Int) ≤ 16; omega⟩, hs0, by show M.n ≤ _; omega, by show M.pn ≤ _; omega⟩
  · exact ⟨ht, by show 267 < _; omega, hl, hs0, hs0, by show M.n + 1 ≤ _; omega, by show M.pn ≤ _; omega⟩
  · exact ⟨ht, by show 267 < _; omega, hl, hs0, hs0, by show M.n + 1 ≤ _; omega, by show M.pn + 1 ≤ _; omega⟩
  · exact ⟨ht, by show 267 < _; omega, hl, hs0, hs0, by show M.n + 1 + 1 ≤ _; omega, by show M.pn + 1 ≤ _; omega⟩
theorem qp_last : stepM (qp M t 3).1 (qp M t 3).2 = qM M t ∧ stepK (qp M t 3).1 (qp M t 3).2 = (qp M t 3).2 := by
  refine ⟨rfl, ?_⟩
  have hp : ((qp M t 3).1.pf (2 * t + 1)).p = false := by
    show (S4.updP M.pf (2 * t + 1) S4.pk0 (2 * t + 1)).p = false
    unfold S4.updP
    rw [if_pos rfl]; rfl
  show (if ((qp M t 3).1.pf (2 * t + 1)).p then _ else _) = _
  rw [hp]; rfl
theorem qM_asleep : ((qM M t).pf (2 * t + 1)).a = true := by
  have hp : (S4.updP M.pf (2 * t + 1) S4.pk0 (2 * t + 1)) = S4.pk0 := by unfold S4.updP; rw [if_pos rfl]
  show (S4.updP (S4.updP M.pf (2 * t + 1) S4.pk0) (2 * t + 1) (S4.parkK (S4.updP M.pf (2 * t + 1) S4.pk0 (2 * t + 1))) (2 * t + 1)).a = true
  rw [hp]
  unfold S4.updP
  rw [if_pos rfl]; rfl
end
section
variable {w0 w w' : World} {base WB : Nat} {M : Sd} {r : List Part} {X : Wm}
theorem pg_drop {q : Part} (h : Pg w0 w base WB M (r ++ [q]) X) : Pg w0 w base WB M r X := by
  have hp := h.ps
  rw [← List.append_assoc] at hp
  exact ⟨Parts.left hp, h.wB, h.xm, h.bl, h.tnb⟩
def xA : Sd := (sdN 0 5).acc 2 267 1
def xB : Sd × Fr := (xA, fr0 267)
def xC : Sd := (fitn xB 1).1.acc 2 267 1
def xD : Sd × Fr := (qM xC 5, fr0 267)
theorem x1 : (fitn xB 1).2.ln = 0 ∧ S2.look (fitn xB 1).1.L 267 = 0 := ⟨by kernel_rfl, by kernel_rfl⟩
theorem x2 : xC.sp = 0 ∧ S1.bitB (S2.look xC.L 267) 0 = true ∧ xC.n ≤ 900000000 ∧ xC.pn ≤ 900000000 := ⟨rfl, by kernel_rfl, by show 3 ≤ _; omega, by show 0 ≤ _; omega⟩
theorem x3 : (fitn xD 0).2.ln = 1 ∧ (fitn xD 1).2.ln = 2 ∧ (fitn xD 2).2.ln = 3 ∧ (fitn xD 3).2.ln = 5 ∧ (fitn xD 4).2.ln = 7 ∧ (fitn xD 5).2.ln = 0 := ⟨by kernel_rfl, by kernel_rfl, by kernel_rfl, by kernel_rfl, by kernel_rfl, by kernel_rfl⟩
theorem x4 : S2.look (fitn xD 5).1.L 267 = 0 ∧ ((fitn xD 5).1.pf 11).p = true := ⟨by kernel_rfl, by kernel_rfl⟩
theorem x5 : xD.1.n ≤ 900000000 ∧ xD.1.pn ≤ 900000000 := ⟨by show 5 ≤ _; omega, by show 2 ≤ _; omega⟩
theorem Pg.freeAt (h : Pg w0 w base WB M r X) (K : Fr) : Wf w0 (w.alloc (.cells K.cs 318)) base WB M (r ++ [freeP w.heap.size K]) r.length w.heap.size K X := by
  refine ⟨?_, by rw [List.length_append]; simp⟩
  rw [List.set_append_right _ _ (Nat.le_refl _), Nat.sub_self]
  exact Pg.add h _
theorem Wf.gone {j' B : Nat} {K K' : Fr} (h : Wf w0 w base WB M (r ++ [freeP B K']) r.length B K X) : Pg w0 w base WB M r X := by
  have h4 := h.pg
  rw [List.set_append_right _ _ (Nat.le_refl _), Nat.sub_self] at h4
  exact pg_drop h4
theorem pg_store (h : Pg w0 w base WB M r X) (hn : M.n ≤ 1000000000) : Calls Tryz.prog 54 #[Pw X.cB, .int .u32 267, .int .u64 1] w fun e w' => (∃ v, e = .returned v) ∧ ∃ X', Pg w0 w' base WB (M.acc 2 267 1) r X' := by
  have h1 := h.store (a := 267) (v := 1) (by omega) (by omega) hn
  exact h1.mono (fun e w' hh => ⟨⟨_, hh.1⟩, by obtain ⟨_, X', h2, _⟩ := hh; exact ⟨X', h2⟩⟩)
end
end Go.Proofs.YtdodloannlfnlaaGreat.S14
namespace Go.Proofs.YtdodloannlfnlaaGreat.S12
open Go.Proofs.YtdodloannlfnlaaGreat Go.Proofs.YtdodloannlfnlaaGreat.S11
open Go.RowKit

section
variable {w0 w w' : World} {base WB RB N cn tn : Nat} {M RM : Sd} {E : List Part} {X : Wm} {Y : Rm}
theorem Bg.wstore (h : Bg w0 w base WB RB N cn tn M RM E X Y) {a v : Nat} (ha : a < 4294967296) (hv : v < 18446744073709551616) (hc : cn ≤ 100000000) :
    Calls Tryz.prog 55 #[Pw RB, .int .u32 a, .int .u64 v] w fun e w' => e = .returned (.int .u64 (S2.look Y.L a : Nat)) ∧ ∃ Y', Bg w0 w' base WB RB N (cn + 1) tn M (RM.store a v) E X Y' := by
  have HS := Lib.hid (h.rstore ha hv hc)
  obtain ⟨_, _, _, c3, _, _⟩ := h.c
  clear h ha hv hc
  generalize (S2.look Y.L a : Nat) = z at *
  go_enter Tryz.func55, Tryz.ntmps55
  go_wp2_with (go_at_call 82; refine HS.out.mono ?_; rintro e w1 ⟨rfl, hy⟩)
  go_ret
  exact ⟨rfl, hy⟩
set_option maxRecDepth 100000 in
set_option maxHeartbeats 4000000 in
theorem pair_storeS (h : Bg w0 w base WB RB N cn tn M M E X Y) {a v : Nat} (ha : a < 4294967296) (hv : v < 18446744073709551616) (hc : cn ≤ 99999999) :
    Calls Tryz.prog 15 #[.agg #[Pw WB, Pw RB], .agg #[.int .u32 a, .int .u64 v]] w fun e w' => e = .returned (.tuple #[]) ∧ ∃ X' Y', Bg w0 w' base WB RB N (cn + 2) tn (M.store a v) (M.store a v) E X' Y' := by
  have hb : Below w.heap.size w ((w.alloc (.cells #[Pw WB, Pw RB] 25)).alloc (.cells #[.int .u32 (a : Int), .int .u64 (v : Int)] 74)) := ((Below.refl _ _).alloc (Nat.le_refl _) _).alloc (by simp) _
  have h0 : ((w.alloc (.cells #[Pw WB, Pw RB] 25)).alloc (.cells #[.int .u32 (a : Int), .int .u64 (v : Int)] 74)).heap[w.heap.size]? = some (.cells #[Pw WB, Pw RB] 25 (0, 0)) := (((Below.refl _ (w.alloc (.cells #[Pw WB, Pw RB] 25))).alloc (Nat.le_refl _) _).block w.heap.size (by simp)).trans (heap_alloc_new _ _)
  have h1 : ((w.alloc (.cells #[Pw WB, Pw RB] 25)).alloc (.cells #[.int .u32 (a : Int), .int .u64 (v : Int)] 74)).heap[w.heap.size + 1]? = some (.cells #[.int .u32 (a : Int), .int .u64 (v : Int)] 74 (0, 0)) := by
    have := heap_alloc_new (w.alloc (.cells #[Pw WB, Pw RB] 25)) (.cells #[.int .u32 (a : Int), .int .u64 (v : Int)] 74)
    rwa [show (w.alloc (.cells #[Pw WB, Pw RB] 25)).heap.size = w.heap.size + 1 by simp] at this
  have hn := h.new hb
  have HLT : Hid (∀ k, Foot X k → k < w.heap.size) := Lib.hid (fun k hk => h.pr.pw.foot_lt hk)
  obtain ⟨B0, hB0⟩ : ∃ B0, B0 = w.heap.size := ⟨_, rfl⟩
  obtain ⟨B1, hB1⟩ : ∃ B1, B1 = w.heap.size + 1 := ⟨_, rfl⟩
  rw [← hB0] at h0
  rw [← hB1] at h1
  have hcx := hn.xn
  have c0 := cell_row h0 0; have c1 := cell_row h0 1; have d0 := cell_row h1 0; have d1 := cell_row h1 1
  simp only [List.getElem?_toArray, List.getElem?_cons_zero, List.getElem?_cons_succ] at c0 c1 d0 d1
  have hst := hn.store ha hv (by omega)
  obtain ⟨k0, _, _, _, _, _⟩ := hn.c
  have HST : Hid (∀ W, W = ((w.alloc (.cells #[Pw WB, Pw RB] 25)).alloc (.cells #[.int .u32 (a : Int), .int .u64 (v : Int)] 74)).drew → Calls Tryz.prog 54 #[Pw X.cB, .int .u32 a, .int .u64 v] W fun e w' => e = .returned (.int .u64 (S2.look X.L a : Nat)) ∧ ∃ X', Bg w0 w' base WB RB N (cn + 1) tn (M.store a v) M E X' Y ∧ w'.heap[B0]? = some (.cells #[Pw WB, Pw RB] 25 (0, 0)) ∧ w'.heap[B1]? = some (.cells #[.int .u32 (a : Int), .int .u64 (v : Int)] 74 (0, 0)) ∧ w'.cell? ⟨WB, 0, none⟩ = some (Pw X.cB)) := Lib.hid (fun W e => by
    subst e
    have hn2 := hn.new ((Below.refl _ _).drew)
    refine (S2.store_any _ X.cB X.cM X.L X.n X.k X.a X.was X.is a v hn2.pr.pw.cells ha hv (by omega)).mono ?_
    rintro e w' ⟨rfl, hl⟩
    obtain ⟨X', h', hcB, _⟩ := hn2.left hl
    obtain ⟨_, _, _, t⟩ := hl
    have nf : ∀ k, w.heap.size ≤ k → ¬ S2.Fp X.cB X.cM k := fun k hk hf => by
      have := HLT.out k ⟨0, _, rfl, hf⟩; omega
    exact ⟨rfl, X', h',
      (t.block B0 (Array.getElem?_eq_some_iff.1 h0).1 (nf _ (by omega))).trans h0, (t.block B1 (Array.getElem?_eq_some_iff.1 h1).1 (nf _ (by omega))).trans h1, by
        have := h'.c.1
        rw [hcB] at this; exact this⟩)
  have HHB : Hid (Below w.heap.size w w) := Lib.hid (Below.refl _ _)
  clear hst hn hb h0 h1 h HLT hcx
  go_enter Tryz.func15, Tryz.ntmps15
  go_upto_region 1 with (fail)
  rw [← hB0, show B0 + 1 = B1 by omega]
  have HQ := Lib.hid (And.intro ha (And.intro hv hc))
  clear hB0 hB1 HHB ha hv hc
  generalize (w.alloc (.cells #[Pw WB, Pw RB] 25)).alloc (.cells #[.int .u32 (a : Int), .int .u64 (v : Int)] 74) = w1 at *
  refine wp_region_held_drew (S := fun w' => w'.cell? ⟨B0, 0, none⟩ = some (Pw WB) ∧ w'.cell? ⟨B1, 0, none⟩ = some (.int .u32 (a : Int)) ∧ w'.cell? ⟨B1, 1, none⟩ = some (.int .u64 (v : Int)) ∧ w'.cell? ⟨WB, 0, none⟩ = some (Pw X.cB)) (by kernel_rfl) ?_ (fun hHeld => ?_)
  · exact ⟨c0, d0, d1, k0⟩
  refine wpAnyH_take (i := 0) (oi := ({ dst := some 4, op := Op.fieldAddr 25 (Operand.tmp 2) 0, type := 0, pos := "help.go:86", after := #[], guard := none } : Oper)) (v := ?vax1) rfl (by kernel_rfl) (by kernel_rfl) (by kernel_rfl) (fun _ _ _ h => h) (Or.inl ⟨by rfl, fun w hSw => ?hyax1⟩) (by assumption) ?rax1
  case hyax1 => (try dsimp only at hSw); go_simp; (try with_reducible rfl)
  (try simp only [Act.put, List.setIfInBounds_toArray, List.set_cons_zero, List.set_cons_succ])
  refine wpAnyH_take (i := 1) (oi := ({ dst := some 5, op := Op.load 22 (Operand.tmp 4), type := 22, pos := "help.go:86", after := #[{ on := 0, ground := Ground.data }], guard := none } : Oper)) (v := ?vax2) rfl (by kernel_rfl) (by kernel_rfl) (by kernel_rfl) (fun _ _ _ h => h) (Or.inl ⟨by rfl, fun w hSw => ?hyax2⟩) (by assumption) ?rax2
  case hyax2 => (try dsimp only at hSw); go_simp; (try with_reducible rfl)
  (try simp only [Act.put, List.setIfInBounds_toArray, List.set_cons_zero, List.set_cons_succ])
  refine wpAnyH_take (i := 2) (oi := ({ dst := some 6, op := Op.nilCheck (Operand.tmp 5), type := 0, pos := "help.go:86", after := #[{ on := 1, ground := Ground.data }], guard := none } : Oper)) (v := ?vax3) rfl (by kernel_rfl) (by kernel_rfl) (by kernel_rfl) (fun _ _ _ h => h) (Or.inl ⟨by rfl, fun w hSw => ?hyax3⟩) (by assumption) ?rax3
  case hyax3 => (try dsimp only at hSw); go_simp; (try with_reducible rfl)
  (try simp only [Act.put, List.setIfInBounds_toArray, List.set_cons_zero, List.set_cons_succ])
  refine wpAnyH_take (i := 3) (oi := ({ dst := some 7, op := Op.fieldAddr 60 (Operand.tmp 6) 0, type := 0, pos := "help.go:86", after := #[{ on := 2, ground := Ground.data }], guard := none } : Oper)) (v := ?vax4) rfl (by kernel_rfl) (by kernel_rfl) (by kernel_rfl) (fun _ _ _ h => h) (Or.inl ⟨by rfl, fun w hSw => ?hyax4⟩) (by assumption) ?rax4
  case hyax4 => (try dsimp only at hSw); go_simp; (try with_reducible rfl)
  (try simp only [Act.put, List.setIfInBounds_toArray, List.set_cons_zero, List.set_cons_succ])
  refine wpAnyH_take (i := 4) (oi := ({ dst := some 8, op := Op.load 52 (Operand.tmp 7), type := 52, pos := "help.go:86", after := #[{ on := 3, ground := Ground.data }], guard := none } : Oper)) (v := ?vax5) rfl (by kernel_rfl) (by kernel_rfl) (by kernel_rfl) (fun _ _ _ h => h) (Or.inl ⟨by rfl, fun w hSw => ?hyax5⟩) (by assumption) ?rax5
  case hyax5 => (try dsimp only at hSw); go_simp; (try with_reducible rfl)
  (try simp only [Act.put, List.setIfInBounds_toArray, List.set_cons_zero, List.set_cons_succ])
  refine wpAnyH_take (i := 5) (oi := ({ dst := some 9, op := Op.fieldAddr 74 (Operand.tmp 3) 0, type := 0, pos := "help.go:86", after := #[], guard := none } : Oper)) (v := ?vax6) rfl (by kernel_rfl) (by kernel_rfl) (by kernel_rfl) (fun _ _ _ h => h) (Or.inl ⟨by rfl, fun w hSw => ?hyax6⟩) (by assumption) ?rax6
  case hyax6 => (try dsimp only at hSw); go_simp; (try with_reducible rfl)
  (try simp only [Act.put, List.setIfInBounds_toArray, List.set_cons_zero, List.set_cons_succ])
  refine wpAnyH_take (i := 6) (oi := ({ dst := some 10, op := Op.load 72 (Operand.tmp 9), type := 72, pos := "help.go:86", after := #[{ on := 5, ground := Ground.data }], guard := none } : Oper)) (v := ?vax7) rfl (by kernel_rfl) (by kernel_rfl) (by kernel_rfl) (fun _ _ _ h => h) (Or.inl ⟨by rfl, fun w hSw => ?hyax7⟩) (by assumption) ?rax7
  case hyax7 => (try dsimp only at hSw); go_simp; (try with_reducible rfl)
  (try simp only [Act.put, List.setIfInBounds_toArray, List.set_cons_zero, List.set_cons_succ])
  refine wpAnyH_take (i := 7) (oi := ({ dst := some 11, op := Op.fieldAddr 74 (Operand.tmp 3) 1, type := 0, pos := "help.go:86", after := #[], guard := none } : Oper)) (v := ?vax8) rfl (by kernel_rfl) (by kernel_rfl) (by kernel_rfl) (fun _ _ _ h => h) (Or.inl ⟨by rfl, fun w hSw => ?hyax8⟩) (by assumption) ?rax8
  case hyax8 => (try dsimp only at hSw); go_simp; (try with_reducible rfl)
  (try simp only [Act.put, List.setIfInBounds_toArray, List.set_cons_zero, List.set_cons_succ])
  refine wpAnyH_take (i := 8) (oi := ({ dst := some 12, op := Op.load 27 (Operand.tmp 11), type := 27, pos := "help.go:86", after := #[{ on := 7, ground := Ground.data }], guard := none } : Oper)) (v := ?vax9) rfl (by kernel_rfl) (by kernel_rfl) (by kernel_rfl) (fun _ _ _ h => h) (Or.inl ⟨by rfl, fun w hSw => ?hyax9⟩) (by assumption) ?rax9
  case hyax9 => (try dsimp only at hSw); go_simp; (try with_reducible rfl)
  (try simp only [Act.put, List.setIfInBounds_toArray, List.set_cons_zero, List.set_cons_succ])
  refine wpAnyH_ready (rs := [9]) (by kernel_rfl) (by simp) ?_
  refine AllReadyH.cons (o := ({ dst := some 13, op := Op.call { callee := Callee.value (Operand.func 54), args := #[Operand.tmp 8, Operand.tmp 10, Operand.tmp 12], argTypes := #[52, 72, 27] }, type := 27, pos := "help.go:86", after := #[{ on := 4, ground := Ground.data }, { on := 6, ground := Ground.data }, { on := 8, ground := Ground.data }], guard := none } : Oper)) rfl (fun Kq hKq => ?_) AllReadyH.nil
  go_simp
  (refine (HST.out _ rfl).mono ?_; rintro e w3 ⟨rfl, X3, h3, i0, i1, i2⟩)
  have j0 := cell_row i0 0; have j1 := cell_row i0 1; have l0 := cell_row i1 0; have l1 := cell_row i1 1
  simp only [List.getElem?_toArray, List.getElem?_cons_zero, List.getElem?_cons_succ] at j0 j1 l0 l1
  refine hKq.out _ _ ?_ (fun hHeld => ?_)
  · exact ⟨j0, l0, l1, i2⟩
  clear hKq Kq
  (try simp only [Act.put, List.setIfInBounds_toArray, List.set_cons_zero, List.set_cons_succ])
  refine wpAnyH_done (by kernel_rfl) ?_ _
  have hws := h3.wstore HQ.out.1 HQ.out.2.1 (by have := HQ.out.2.2; omega)
  have HWS := Lib.hid hws
  clear hHeld h3 hws i0 i1 i2 c0 c1 d0 d1 k0
  go_wp2_with (go_at_call 55; refine HWS.out.mono ?_; rintro e w4 ⟨rfl, Y4, h4⟩)
  go_end0
  exact ⟨rfl, X3, Y4, h4⟩
theorem pair_store (h : Bg w0 w base WB RB N cn tn M M E X Y) {a v : Nat} (ha : a < 4294967296) (hv : v < 18446744073709551616) (hc : cn ≤ 99999999) :
    Calls Tryz.prog 15 #[.agg #[Pw WB, Pw RB], .agg #[.int .u32 a, .int .u64 v]] w fun e w' => e = .returned (.tuple #[]) ∧ BgE w0 w' base WB RB N (cn + 2) tn E := by
  refine (pair_storeS h ha hv hc).mono ?_
  rintro e w' ⟨rfl, X', Y', h'⟩
  exact ⟨rfl, _, X', Y', h'⟩
end
end Go.Proofs.YtdodloannlfnlaaGreat.S12
namespace Go.Proofs.YtdodloannlfnlaaGreat.S12
open Go.Proofs.YtdodloannlfnlaaGreat Go.Proofs.YtdodloannlfnlaaGreat.S11
open Go.RowKit

section
variable {w0 w w' : World} {base WB RB N cn tn : Nat} {M RM : Sd} {E : List Part} {X : Wm} {Y : Rm}
set_option maxRecDepth 100000 in
set_option maxHeartbeats 4000000 in
theorem pair_tickS (h : Bg w0 w base WB RB N cn tn M M E X Y) {n : Nat} (hn : n ≤ 18446744073709551615) :
    Calls Tryz.prog 22 #[.agg #[Pw WB, Pw RB], .int .u64 n] w fun e w' => e = .returned (.tuple #[]) ∧ ∃ X' Y', Bg w0 w' base WB RB N cn tn (M.tick n) (M.tick n) E X' Y' := by
  have hb : Below w.heap.size w (w.alloc (.cells #[Pw WB, Pw RB] 25)) := (Below.refl _ _).alloc (Nat.le_refl _) _
  have h0 := heap_alloc_new w (.cells #[Pw WB, Pw RB] 25)
  have HLT : Hid (∀ k, Foot X k → k < w.heap.size) := Lib.hid (fun k hk => h.pr.pw.foot_lt hk)
  obtain ⟨B0, hB0⟩ : ∃ B0, B0 = w.heap.size := ⟨_, rfl⟩
  rw [← hB0] at h0
  have h1 := h.new hb
  have c0 := cell_row h0 0; have c1 := cell_row h0 1
  simp only [List.getElem?_toArray, List.getElem?_cons_zero, List.getElem?_cons_succ] at c0 c1
  obtain ⟨_, k1, _, _, _, _⟩ := h1.c
  have HST : Hid (Calls Tryz.prog 60 #[Pw X.kB, .int .u64 n] (w.alloc (.cells #[Pw WB, Pw RB] 25)) fun e w' => e = .returned (.tuple #[]) ∧ ∃ X', Bg w0 w' base WB RB N cn tn (M.tick n) M E X' Y ∧ w'.heap[B0]? = some (.cells #[Pw WB, Pw RB] 25 (0, 0))) := Lib.hid (by
    refine (S3.tick_any h1.pr.pw.clock n hn).mono ?_
    rintro e w' ⟨rfl, hc, t⟩
    obtain ⟨X', h'⟩ := h1.tickd hc t
    exact ⟨rfl, X', h',
      (t.block B0 (Array.getElem?_eq_some_iff.1 h0).1 (fun e => by have := HLT.out X.kB ⟨1, _, rfl, .inl rfl⟩; omega)).trans h0⟩)
  have HB0 := Lib.hid hB0
  clear hb h0 h1 h HLT hB0
  go_enter Tryz.func22, Tryz.ntmps22
  go_upto_region 1 with (fail)
  rw [← HB0.out]
  clear HB0
  generalize w.alloc (.cells #[Pw WB, Pw RB] 25) = w1 at *
  go_upto_region 2 with (go_at_call 60; refine HST.out.mono ?_; rintro e w3 ⟨rfl, X3, h3, i0⟩)
  have j1 := cell_row i0 1
  simp only [List.getElem?_toArray, List.getElem?_cons_zero, List.getElem?_cons_succ] at j1
  obtain ⟨_, _, _, _, k5, _⟩ := h3.c
  have HRT := Lib.hid (h3.rtick hn)
  clear h3 i0 HST c0 c1 k1
  go_wp2_with (go_at_call 61; refine HRT.out.mono ?_; rintro e w4 ⟨rfl, Y4, h4⟩)
  go_end0
  exact ⟨rfl, X3, Y4, h4⟩
theorem pair_tick (h : Bg w0 w base WB RB N cn tn M M E X Y) {n : Nat} (hn : n ≤ 18446744073709551615) :
    Calls Tryz.prog 22 #[.agg #[Pw WB, Pw RB], .int .u64 n] w fun e w' => e = .returned (.tuple #[]) ∧ BgE w0 w' base WB RB N cn tn E := by
  refine (pair_tickS h hn).mono ?_
  rintro e w' ⟨rfl, X', Y', h'⟩
  exact ⟨rfl, _, X', Y', h'⟩
end
end Go.Proofs.YtdodloannlfnlaaGreat.S12
namespace Go.Proofs.YtdodloannlfnlaaGreat.S12
open Go.Proofs.YtdodloannlfnlaaGreat Go.Proofs.YtdodloannlfnlaaGreat.S11
open Go.RowKit

theorem rnew_lo (spin most : Int) (n c : Nat) (A : Option Addr) (h : spin < 0) (w : World) : Calls Tryz.prog 10 #[.agg #[.int .i64 spin, .int .u64 most, .slice A n c]] w fun e w' => e = .returned (.tuple #[.pointer none, .int .i64 1]) ∧ Below w.heap.size w w' := by
  have HB : Hid (Below w.heap.size w (w.alloc (.cells #[.int .i64 spin, .int .u64 most, .slice A n c] 48))) := Lib.hid ((Below.refl _ _).alloc (Nat.le_refl _) _)
  have h1 : decide (spin < 0) = true := by simpa using h
  clear h
  go_enter Tryz.func10, Tryz.ntmps10
  go_wp2_with fail
  go_ret2
  exact ⟨rfl, HB.out⟩
theorem rnew_hi (spin most : Int) (n c : Nat) (A : Option Addr) (h : 16 < spin) (w : World) : Calls Tryz.prog 10 #[.agg #[.int .i64 spin, .int .u64 most, .slice A n c]] w fun e w' => e = .returned (.tuple #[.pointer none, .int .i64 1]) ∧ Below w.heap.size w w' := by
  have HB : Hid (Below w.heap.size w (w.alloc (.cells #[.int .i64 spin, .int .u64 most, .slice A n c] 48))) := Lib.hid ((Below.refl _ _).alloc (Nat.le_refl _) _)
  have h1 : decide (spin < 0) = false := by simp; omega
  have h2 : decide (16 < spin) = true := by simpa using h
  clear h
  go_enter Tryz.func10, Tryz.ntmps10
  go_wp2_with fail
  go_ret2
  exact ⟨rfl, HB.out⟩
theorem rnew_big (spin most : Int) (n c : Nat) (A : Option Addr) (h : 0 ≤ spin ∧ spin ≤ 16) (hn : 65536 < n) (w : World) : Calls Tryz.prog 10 #[.agg #[.int .i64 spin, .int .u64 most, .slice A n c]] w fun e w' => e = .returned (.tuple #[.pointer none, .int .i64 1]) ∧ Below w.heap.size w w' := by
  have HB : Hid (Below w.heap.size w (w.alloc (.cells #[.int .i64 spin, .int .u64 most, .slice A n c] 48))) := Lib.hid ((Below.refl _ _).alloc (Nat.le_refl _) _)
  have h1 : decide (spin < 0) = false := by simp; omega
  have h2 : decide (16 < spin) = false := by simp; omega
  have h3 : decide ((65536 : Int) < (n : Int)) = true := by simp; omega
  clear h hn
  go_enter Tryz.func10, Tryz.ntmps10
  go_wp2_with fail
  go_ret2
  exact ⟨rfl, HB.out⟩
theorem rnew_no (spin most : Int) (n c : Nat) (A : Option Addr) (h : okC spin n = false) (w : World) : Calls Tryz.prog 10 #[.agg #[.int .i64 spin, .int .u64 most, .slice A n c]] w fun e w' => e = .returned (.tuple #[.pointer none, .int .i64 1]) ∧ Below w.heap.size w w' := by
  by_cases h1 : spin < 0
  · exact rnew_lo spin most n c A h1 w
  · by_cases h2 : 16 < spin
    · exact rnew_hi spin most n c A h2 w
    · refine rnew_big spin most n c A ⟨by omega, by omega⟩ ?_ w
      simp [okC] at h
      have := h (by omega) (by omega)
      omega
structure RAt0 (Y : Rm) (spin : Int) (most : Nat) (D : List Nat) : Prop where
  L : Y.L = L02
  n : Y.n = 0
  k : Y.k = 0
  a : Y.a = 0
  was : Y.was = 0
  is : Y.is = 0
  T : Y.T = 0
  most : Y.most = most
  D : Y.D = D
  M : Y.M = S10.M0 0
  pf : Y.pf = fun _ => S4.pk0
  pn : Y.pn = 0
  pk : Y.pk = 0
  pp : Y.pp = 0
  lk : Y.lk = S5.S0
  nD : Y.nD = []
  sp : Y.sp = spin
theorem r177 : Tryz.zeroCells130 = S5.Z192 := by kernel_rfl
theorem LAt.at_first {T : Nat} {K : IntKind} {w : World} {p : Nat} (h : w.heap[p]? = some (.cells #[.slice none 0 0] T (0, 0))) : S11.LAt T K w p p (.slice none 0 0) [] :=
  ⟨h, row_nil _ _ _, by intro e; simp [Value.ownBlock] at e, Nat.le_refl _⟩
theorem rworld_y {w w' : World} {spin : Int} {most : Nat} {D : List Nat} {Bw : Nat} (h : RWorld w w' spin most D Bw) : ∃ Y : Rm, Y.wB = Bw ∧ Parts w' w.heap.size Y.parts ∧ RAt0 Y spin most (D.take 65536) ∧ Y.rb ≤ w'.heap.size := by
  obtain ⟨q, Bc, Bk, Bp, Bl, Bt, Bn, bc, bk, bt, sc, sk, own, hp⟩ := h
  have h2 := Parts.right hp
  have hc : S2.RefAt w' bc Bc sc L02 0 0 0 0 0 := h2.ok 0 _ rfl
  have hl : bc ≤ w'.heap.size := by
    obtain ⟨p, cap, e, hg⟩ := S2.row_slice hc.own
    obtain ⟨g, rfl⟩ := hg (by decide)
    have := hc.own.lt g (by rw [e]; rfl)
    omega
  have e3 : w'.heap[Bp]? = some (.cells Tryz.zeroCells113 113) := h2.ok 3 _ rfl
  rw [S4.rzero140] at e3
  have h3 := Parts.recast (i := 3) h2 rfl (rpermitsP Bp (fun _ => S4.pk0) ((0 : Nat) : Int) 0 0) (S4.rpk_row e3) (fun k e => e)
  have e4 : w'.heap[Bl]? = some (.cells Tryz.zeroCells130 130) := h2.ok 4 _ rfl
  rw [r177] at e4
  have h4 := Parts.recast (i := 4) h3 rfl (linksP Bl S5.S0) (S5.has_row e4) (fun k e => e)
  have e5 : w'.heap[Bn]? = some (.cells #[.slice none 0 0] 104) := h2.ok 5 _ rfl
  have h5 := Parts.recast (i := 5) h4 rfl (notesP 104 .i64 Bn Bn (.slice none 0 0) []) (LAt.at_first e5) (fun k e => by
    rcases e with e | e
    · exact e
    · simp [Value.ownBlock] at e)
  exact ⟨{ rb := bc, rB := Bc, rs := sc, L := L02, n := 0, k := 0, a := 0, was := 0, is := 0, kb := bk, kB := Bk, T := 0, most := most, ks := sk, D := D.take 65536, tb := bt, tO := own, ts := Pw Bt, M := S10.M0 0, pB := Bp, pf := fun _ => S4.pk0, pn := 0, pk := 0, pp := 0, lB := Bl, lk := S5.S0, nb := Bn, nB := Bn, ns := .slice none 0 0, nD := [], wB := Bw, sp := spin }, rfl, h5, ⟨rfl, rfl, rfl, rfl, rfl, rfl, rfl, rfl, rfl, rfl, rfl, rfl, rfl, rfl, rfl, rfl, rfl⟩, hl⟩
def RNewE (w w' : World) (spin : Int) (most : Nat) (D : List Nat) (v : Value) (er : Int) : Prop :=
  (okC spin D.length = true ∧ er = 0 ∧ ∃ Y : Rm, v = Pw Y.wB ∧ Parts w' w.heap.size Y.parts ∧ RAt0 Y spin most D ∧ Y.rb ≤ w'.heap.size) ∨ (okC spin D.length = false ∧ v = .pointer none ∧ er = 1)
theorem rnew_any {w : World} (spin : Int) (most c : Nat) {A : Option Addr} {D : List Nat} {b2 : Nat} (hn : D.length ≤ c) (hc : c ≤ 9223372036854775807) (hm : most ≤ 18446744073709551615) (hr : S3.Rd w b2 A D) (hb2 : b2 ≤ w.heap.size) (hD : ∀ d ∈ D, d ≤ 18446744073709551615) :
    Calls Tryz.prog 10 #[.agg #[.int .i64 spin, .int .u64 (most : Int), .slice A D.length c]] w fun e w' => ∃ v er, e = .returned (.tuple #[.pointer v, .int .i64 er]) ∧ RNewE w w' spin most D (.pointer v) er ∧ Below w.heap.size w w' := by
  cases hok : okC spin D.length
  · refine (rnew_no spin most D.length c A hok w).mono ?_
    rintro e w' ⟨rfl, hb⟩
    exact ⟨_, _, rfl, .inr ⟨hok, rfl, rfl⟩, hb⟩
  · have hb : 0 ≤ spin ∧ spin ≤ 16 ∧ D.length ≤ 65536 := by simp [okC] at hok; omega
    refine (rworld_any spin most D.length c A (D := D) ⟨hb.1, hb.2.1⟩ hb.2.2 (fun W q => S3.rnew_any c most hn hc hm (hr.below q hb2) (Nat.le_trans hb2 q.size) hD)).mono ?_
    rintro e w' ⟨Bw, rfl, hw, hbl⟩
    obtain ⟨Y, h1, h2, h3, h4⟩ := rworld_y hw
    rw [List.take_of_length_le hb.2.2] at h3
    exact ⟨_, _, rfl, .inl ⟨hok, rfl, Y, by rw [h1], h2, h3, h4⟩, hbl⟩
def WNewE (w w' : World) (spin : Int) (most : Nat) (D : List Nat) (v : Value) (er : Int) : Prop :=
  (okC spin D.length = true ∧ er = 0 ∧ ∃ X : Wm, v = Pw X.wB ∧ PW w' w.heap.size X ∧ At0 X spin most D) ∨ (okC spin D.length = false ∧ v = .pointer none ∧ er = 1)
theorem wnew_any {w : World} (spin : Int) (most c : Nat) {A : Option Addr} {D : List Nat} {b2 : Nat} (hn : D.length ≤ c) (hc : c ≤ 9223372036854775807) (hm : most ≤ 18446744073709551615) (hr : S3.Rd w b2 A D) (hb2 : b2 ≤ w.heap.size) (hD : ∀ d ∈ D, d ≤ 18446744073709551615) :
    Calls Tryz.prog 12 #[.agg #[.int .i64 spin, .int .u64 (most : Int), .slice A D.length c]] w fun e w' => ∃ v er, e = .returned (.tuple #[.pointer v, .int .i64 er]) ∧ WNewE w w' spin most D (.pointer v) er ∧ Below w.heap.size w w' := by
  cases hok : okC spin D.length
  · refine (new_no spin most D.length c A hok w).mono ?_
    rintro e w' ⟨rfl, hb⟩
    exact ⟨_, _, rfl, .inr ⟨hok, rfl, rfl⟩, hb⟩
  · have hb : 0 ≤ spin ∧ spin ≤ 16 ∧ D.length ≤ 65536 := by simp [okC] at hok; omega
    refine (new_yes spin most D.length c A (D := D) hok (fun W q => by
      have := S3.new_any c most hn hc hm (hr.below q hb2) (Nat.le_trans hb2 q.size) hD
      rw [List.take_of_length_le hb.2.2] at this
      exact this)).mono ?_
    rintro e w' ⟨X, rfl, hp, h0, hbl⟩
    exact ⟨_, _, rfl, .inl ⟨hok, rfl, X, rfl, hp, h0⟩, hbl⟩
theorem byt02 : S2.Byt L02 := by
  have e : L02 = [(0, 2)] := by kernel_rfl
  rw [e]
  intro p hp _
  simp at hp
  subst hp
  decide
def sd0 (spin : Int) (most : Nat) (D : List Nat) : Sd := ⟨L02, 0, 0, 0, 0, 0, 0, most, D, fun _ => S4.pk0, 0, 0, 0, S5.S0, S10.M0 0, [], spin⟩
theorem At0.sd {X : Wm} {spin : Int} {most : Nat} {D : List Nat} (h : At0 X spin most D) : X.sd = sd0 spin most D := by
  unfold Wm.sd sd0
  rw [h.L, h.n, h.k, h.a, h.was, h.is, h.T, h.most, h.D, h.pf, h.pn, h.pk, h.pp, h.lk, h.tM, h.nD, h.sp]
theorem RAt0.sd {Y : Rm} {spin : Int} {most : Nat} {D : List Nat} (h : RAt0 Y spin most D) : Y.sd = sd0 spin most D := by
  unfold Rm.sd sd0
  rw [h.L, h.n, h.k, h.a, h.was, h.is, h.T, h.most, h.D, h.pf, h.pn, h.pk, h.pp, h.lk, h.M, h.nD, h.sp]
theorem bg_first {w0 w1 w2 : World} {base : Nat} {X : Wm} {Y : Rm} {spin : Int} {most : Nat} {D : List Nat} (hY : Parts w1 base Y.parts) (hr : RAt0 Y spin most D) (hb : Y.rb ≤ w1.heap.size) (hX : PW w2 w1.heap.size X) (hx : At0 X spin most D) (b : Below w1.heap.size w1 w2) (hbl : Below base w0 w2) (hsp : 0 ≤ spin ∧ spin ≤ 16) :
    Bg w0 w2 base X.wB Y.wB 0 0 1 (sd0 spin most D) (sd0 spin most D) [] X Y := by
  have hj := hY.join b hX (Nat.le_refl _)
  refine { pr := ?_, wB := rfl, rB := rfl, xn := by rw [hx.n]; omega, yn := by rw [hr.n]; omega, pn := by rw [hx.pn]; omega, yp := by rw [hr.pn]; omega, nD := by rw [hx.nD]; simp, pok := by rw [hx.pf]; exact S4.pkok0, byt := by rw [hx.L]; exact byt02, spk := hsp, pkr := (by rw [hx.pk]; decide), nk := (by rw [hx.nD]; intro d hd; cases hd), xm := hx.sd, ym := hr.sd, gd := S10.good_first 0, gr := S10.good_first 0, tn := by rw [hx.tn]; omega, rb := Nat.le_trans hb b.size, bl := hbl }
  unfold PairAt
  rw [List.append_nil]
  exact hj
end Go.Proofs.YtdodloannlfnlaaGreat.S12
namespace Go.Proofs.YtdodloannlfnlaaGreat.S12
open Go.Proofs.YtdodloannlfnlaaGreat Go.Proofs.YtdodloannlfnlaaGreat.S11
open Go.RowKit

def GIn (w : World) (base : Nat) (p : Option Addr) (n : Nat) (G : Nat → Int) : Prop := 0 < n → ∃ lb lo, p = some ⟨lb, lo, none⟩ ∧ lb < base ∧ ∀ i, i < n → w.cell? ⟨lb, lo + i, none⟩ = some (.int .i64 (G i))
structure Qu where
  b : Int
  i : Int
  A : Option Addr
  c : Nat
  D : List S10.Ent
  ta : Int
  tf : Int
instance : Inhabited Qu := ⟨⟨0, 0, none, 0, [], 0, 0⟩⟩
def QIn (w : World) (base : Nat) (p : Option Addr) (n : Nat) (Q : Nat → Qu) : Prop := 0 < n → ∃ lb lo, p = some ⟨lb, lo, none⟩ ∧ lb < base ∧ ∀ i, i < n → w.cell? ⟨lb, lo + i * 5, none⟩ = some (.int .i64 (Q i).b) ∧ w.cell? ⟨lb, lo + i * 5 + 1, none⟩ = some (.int .i64 (Q i).i) ∧ w.cell? ⟨lb, lo + i * 5 + 2, none⟩ = some (.slice (Q i).A (Q i).D.length (Q i).c) ∧ w.cell? ⟨lb, lo + i * 5 + 3, none⟩ = some (.int .u64 (Q i).ta) ∧ w.cell? ⟨lb, lo + i * 5 + 4, none⟩ = some (.int .u64 (Q i).tf)
structure QOk (w : World) (base : Nat) (q : Qu) : Prop where
  b : S10.InI q.b
  le : q.D.length ≤ q.c
  c : q.c ≤ 9223372036854775807
  rd : S10.Rd w base q.A (S10.flat q.D)
  keys : S10.Keys q.D
theorem GIn.below {w w' : World} {base b : Nat} {p : Option Addr} {n : Nat} {G : Nat → Int} (h : GIn w base p n G) (hb : Below b w w') (hbb : base ≤ b) : GIn w' base p n G := fun h0 => by
  obtain ⟨lb, lo, e, hl, hc⟩ := h h0
  exact ⟨lb, lo, e, hl, fun i hi => (hb.cell (p := ⟨lb, lo + i, none⟩) (Nat.lt_of_lt_of_le hl hbb)).trans (hc i hi)⟩
theorem QIn.below {w w' : World} {base b : Nat} {p : Option Addr} {n : Nat} {Q : Nat → Qu} (h : QIn w base p n Q) (hb : Below b w w') (hbb : base ≤ b) : QIn w' base p n Q := fun h0 => by
  obtain ⟨lb, lo, e, hl, hc⟩ := h h0
  have k : ∀ j, w'.cell? ⟨lb, j, none⟩ = w.cell? ⟨lb, j, none⟩ := fun j => hb.cell (p := ⟨lb, j, none⟩) (Nat.lt_of_lt_of_le hl hbb)
  refine ⟨lb, lo, e, hl, fun i hi => ?_⟩
  obtain ⟨h1, h2, h3, h4, h5⟩ := hc i hi
  exact ⟨(k _).trans h1, (k _).trans h2, (k _).trans h3, (k _).trans h4, (k _).trans h5⟩
theorem QOk.below {w w' : World} {base b : Nat} {q : Qu} (h : QOk w base q) (hb : Below b w w') (hbb : base ≤ b) : QOk w' base q := ⟨h.b, h.le, h.c, h.rd.below hb hbb, h.keys⟩
section
variable {w0 w w' : World} {base WB RB N cn tn : Nat} {M RM : Sd} {E : List Part} {X : Wm} {Y : Rm}
theorem Bg.outside (h : Bg w0 w base WB RB N cn tn M RM E X Y) {S : Nat → Prop} (t : Turns S w w') (hs : ∀ k, S k → k < base) : Bg w' w' base WB RB N cn tn M RM E X Y :=
  { h with pr := Parts.kept h.pr t (fun i p hp k hk e => by have := h.pr.low i p hp k hk; have := hs k e; omega), rb := Nat.le_trans h.rb t.size, bl := Below.refl _ _ }
end
theorem Parts.rebase {w : World} {b b' : Nat} {l : List Part} (h : Parts w b l) (hb : b' ≤ b) : Parts w b' l :=
  ⟨Nat.le_trans hb h.size, h.ok, h.apart, fun i p hp k hk => Nat.le_trans hb (h.low i p hp k hk)⟩
structure BCut (w wx : World) (B0 B1 B2 B3 b1 : Nat) (fb : Array Value) (Y : Rm) (sp : Int) (mo : Nat) (D : List Nat) (A : Option Addr) (c : Nat) : Prop where
  p0 : wx.heap[B0]? = some (.cells fb 35 (0, 0))
  p1 : wx.heap[B1]? = some (.cells #[.pointer none, .pointer none] 25 (0, 0))
  p2 : wx.heap[B2]? = some (.cells #[.pointer none, Pw Y.wB] 25 (0, 0))
  p3 : wx.heap[B3]? = some (.cells #[.int .i64 sp, .int .u64 (mo : Int), .slice A D.length c] 30 (0, 0))
  py : Parts wx b1 Y.parts
  r0 : RAt0 Y sp mo D
  rb : Y.rb ≤ wx.heap.size
  ok : okC sp D.length = true
  dl : D.length ≤ c
  dc : c ≤ 9223372036854775807
  mm : mo ≤ 18446744073709551615
  rd : S3.Rd wx w.heap.size A D
  dd : ∀ d ∈ D, d ≤ 18446744073709551615
  bl : Below w.heap.size w wx
  sz : b1 ≤ wx.heap.size
set_option maxRecDepth 100000 in
set_option maxHeartbeats 8000000 in
theorem begin_any {w : World} {sp : Int} {mo dc sn sc gn gc qn qc tk : Nat} {dA sA gA qA : Option Addr} {D : List Nat} {SA SV : Nat → Nat} {G : Nat → Int} {Q : Nat → Qu}
    (hd : D.length ≤ 1048576) (hdl : D.length ≤ dc) (hdc : dc ≤ 9223372036854775807) (hmo : mo ≤ 18446744073709551615) (hrd : S3.Rd w w.heap.size dA D) (hdd : ∀ d ∈ D, d ≤ 18446744073709551615)
    (hsn : sn ≤ 1048576) (hsi : S2.WIn w w.heap.size sA sn SA SV) (hso : S2.WOk sn SA SV) (hgi : GIn w w.heap.size gA gn G) (hgo : ∀ i, i < gn → S10.InI (G i)) (hgn : gn ≤ 9223372036854775807) (hqi : QIn w w.heap.size qA qn Q) (hqo : ∀ i, i < qn → QOk w w.heap.size (Q i)) (hqn : qn ≤ 9223372036854775807) (htk : tk ≤ 18446744073709551615) :
    Calls Tryz.prog 4 #[.agg #[.int .i64 sp, .int .u64 (mo : Int), .slice dA D.length dc, .slice sA sn sc, .slice gA gn gc, .slice qA qn qc, .int .u64 (tk : Int)]] w fun e w' => ∃ M X Y, e = .returned (.agg #[Pw X.wB, Pw Y.wB]) ∧ Bg w w' w.heap.size X.wB Y.wB 1200 2097164 7 M M [] X Y := by
  have hbw : Below w.heap.size w ((((w.alloc (.cells #[.int .i64 sp, .int .u64 (mo : Int), .slice dA D.length dc, .slice sA sn sc, .slice gA gn gc, .slice qA qn qc, .int .u64 (tk : Int)] 35)).alloc (.cells #[.pointer none, .pointer none] 25)).alloc (.cells #[.pointer none, .pointer none] 25)).alloc (.cells #[.int .i64 sp, .int .u64 (mo : Int), .slice dA D.length dc] 30)) := ((((Below.refl _ _).alloc (Nat.le_refl _) _).alloc (by simp) _).alloc (by simp; omega) _).alloc (by simp; omega) _
  have h0 := heap_alloc_new w (.cells #[.int .i64 sp, .int .u64 (mo : Int), .slice dA D.length dc, .slice sA sn sc, .slice gA gn gc, .slice qA qn qc, .int .u64 (tk : Int)] 35)
  have h1 := heap_alloc_new (w.alloc (.cells #[.int .i64 sp, .int .u64 (mo : Int), .slice dA D.length dc, .slice sA sn sc, .slice gA gn gc, .slice qA qn qc, .int .u64 (tk : Int)] 35)) (.cells #[.pointer none, .pointer none] 25)
  have h2 := heap_alloc_new ((w.alloc (.cells #[.int .i64 sp, .int .u64 (mo : Int), .slice dA D.length dc, .slice sA sn sc, .slice gA gn gc, .slice qA qn qc, .int .u64 (tk : Int)] 35)).alloc (.cells #[.pointer none, .pointer none] 25)) (.cells #[.pointer none, .pointer none] 25)
  have h3 := heap_alloc_new (((w.alloc (.cells #[.int .i64 sp, .int .u64 (mo : Int), .slice dA D.length dc, .slice sA sn sc, .slice gA gn gc, .slice qA qn qc, .int .u64 (tk : Int)] 35)).alloc (.cells #[.pointer none, .pointer none] 25)).alloc (.cells #[.pointer none, .pointer none] 25)) (.cells #[.int .i64 sp, .int .u64 (mo : Int), .slice dA D.length dc] 30)
  have s1 : (w.alloc (.cells #[.int .i64 sp, .int .u64 (mo : Int), .slice dA D.length dc, .slice sA sn sc, .slice gA gn gc, .slice qA qn qc, .int .u64 (tk : Int)] 35)).heap.size = w.heap.size + 1 := by simp
  have s2 : ((w.alloc (.cells #[.int .i64 sp, .int .u64 (mo : Int), .slice dA D.length dc, .slice sA sn sc, .slice gA gn gc, .slice qA qn qc, .int .u64 (tk : Int)] 35)).alloc (.cells #[.pointer none, .pointer none] 25)).heap.size = w.heap.size + 2 := by simp
  have s3 : (((w.alloc (.cells #[.int .i64 sp, .int .u64 (mo : Int), .slice dA D.length dc, .slice sA sn sc, .slice gA gn gc, .slice qA qn qc, .int .u64 (tk : Int)] 35)).alloc (.cells #[.pointer none, .pointer none] 25)).alloc (.cells #[.pointer none, .pointer none] 25)).heap.size = w.heap.size + 3 := by simp
  have s4 : ((((w.alloc (.cells #[.int .i64 sp, .int .u64 (mo : Int), .slice dA D.length dc, .slice sA sn sc, .slice gA gn gc, .slice qA qn qc, .int .u64 (tk : Int)] 35)).alloc (.cells #[.pointer none, .pointer none] 25)).alloc (.cells #[.pointer none, .pointer none] 25)).alloc (.cells #[.int .i64 sp, .int .u64 (mo : Int), .slice dA D.length dc] 30)).heap.size = w.heap.size + 4 := by simp
  have u2 := fun (k : Nat) (hk : k < w.heap.size + 3) => (below1 (((w.alloc (.cells #[.int .i64 sp, .int .u64 (mo : Int), .slice dA D.length dc, .slice sA sn sc, .slice gA gn gc, .slice qA qn qc, .int .u64 (tk : Int)] 35)).alloc (.cells #[.pointer none, .pointer none] 25)).alloc (.cells #[.pointer none, .pointer none] 25)) (.cells #[.int .i64 sp, .int .u64 (mo : Int), .slice dA D.length dc] 30)).block k (by rw [s3]; exact hk)
  have u1 := fun (k : Nat) (hk : k < w.heap.size + 2) => (below1 ((w.alloc (.cells #[.int .i64 sp, .int .u64 (mo : Int), .slice dA D.length dc, .slice sA sn sc, .slice gA gn gc, .slice qA qn qc, .int .u64 (tk : Int)] 35)).alloc (.cells #[.pointer none, .pointer none] 25)) (.cells #[.pointer none, .pointer none] 25)).block k (by rw [s2]; exact hk)
  have u0 := fun (k : Nat) (hk : k < w.heap.size + 1) => (below1 (w.alloc (.cells #[.int .i64 sp, .int .u64 (mo : Int), .slice dA D.length dc, .slice sA sn sc, .slice gA gn gc, .slice qA qn qc, .int .u64 (tk : Int)] 35)) (.cells #[.pointer none, .pointer none] 25)).block k (by rw [s1]; exact hk)
  rw [s1] at h1
  rw [s2] at h2
  rw [s3] at h3
  have h2' := (u2 (w.heap.size + 2) (by omega)).trans h2
  have h1' := (u2 (w.heap.size + 1) (by omega)).trans ((u1 (w.heap.size + 1) (by omega)).trans h1)
  have h0' := (u2 w.heap.size (by omega)).trans ((u1 w.heap.size (by omega)).trans ((u0 w.heap.size (by omega)).trans h0))
  obtain ⟨B0, hB0⟩ : ∃ B0, B0 = w.heap.size := ⟨_, rfl⟩
  obtain ⟨B1, hB1⟩ : ∃ B1, B1 = w.heap.size + 1 := ⟨_, rfl⟩
  obtain ⟨B2, hB2⟩ : ∃ B2, B2 = w.heap.size + 2 := ⟨_, rfl⟩
  obtain ⟨B3, hB3⟩ : ∃ B3, B3 = w.heap.size + 3 := ⟨_, rfl⟩
  obtain ⟨b1, hb1⟩ : ∃ b1, b1 = w.heap.size + 4 := ⟨_, rfl⟩
  rw [← hB0] at h0'
  rw [← hB1] at h1'
  rw [← hB2] at h2'
  rw [← hB3] at h3
  rw [← hb1] at s4
  have HB := Lib.hid (And.intro hB0 (And.intro hB1 (And.intro hB2 (And.intro hB3 hb1))))
  have H0 := Lib.hid h0'; have H1 := Lib.hid h1'; have H2 := Lib.hid h2'; have H3 := Lib.hid h3; have HBW := Lib.hid hbw; have HS4 := Lib.hid s4
  have HDD := Lib.hid (And.intro hd (And.intro hdl (And.intro hdc (And.intro hmo (And.intro hrd hdd)))))
  have HSI := Lib.hid (And.intro hsn (And.intro hsi hso)); have HGI := Lib.hid (And.intro hgi (And.intro hgo hgn)); have HQI := Lib.hid (And.intro hqi (And.intro hqo hqn)); have HTK := Lib.hid htk
  clear h0 h1 h2 h3 h0' h1' h2' s1 s2 s3 s4 u0 u1 u2 hd hdl hdc hmo hrd hdd hsn hsi hso hgi hgo hgn hqi hqo hqn htk hbw
  go_enter Tryz.func4, Tryz.ntmps4
  go_upto_region 3 with (fail)
  rw [← hB0, show B0 + 1 = B1 by omega, show B1 + 1 = B2 by omega, show B2 + 1 = B3 by omega]
  generalize ((((w.alloc (.cells #[.int .i64 sp, .int .u64 (mo : Int), .slice dA D.length dc, .slice sA sn sc, .slice gA gn gc, .slice qA qn qc, .int .u64 (tk : Int)] 35)).alloc (.cells #[.pointer none, .pointer none] 25)).alloc (.cells #[.pointer none, .pointer none] 25)).alloc (.cells #[.int .i64 sp, .int .u64 (mo : Int), .slice dA D.length dc] 30)) = w1 at *
  have HLT : Hid (B0 < b1 ∧ B1 < b1 ∧ B2 < b1 ∧ B3 < b1 ∧ w.heap.size ≤ B0 ∧ w.heap.size ≤ B1 ∧ w.heap.size ≤ B2 ∧ w.heap.size ≤ B3 ∧ B0 ≠ B2 ∧ B1 ≠ B2 ∧ B3 ≠ B2 ∧ B0 ≠ B3 ∧ B1 ≠ B3) := Lib.hid (by omega)
  clear hB0 hB1 hB2 hB3 hb1 HB
  have c0 := cell_row H3.out 0; have c1 := cell_row H3.out 1; have c2 := cell_row H3.out 2
  have y1 := cell_row H2.out 1; have z1 := froz_row H2.out 1
  simp only [List.getElem?_toArray, List.getElem?_cons_zero, List.getElem?_cons_succ] at c0 c1 c2 y1
  have hrd1 := HDD.out.2.2.2.2.1.below HBW.out (Nat.le_refl _)
  have HRD1 := Lib.hid hrd1
  clear hrd1
  go_upto_region 4 with (first
    | (go_at_call 11; refine (S3.otherC_any sp (mo : Int) dc HRD1.out HBW.out.size (by have := HDD.out.1; omega)).mono ?_; rintro e wo ⟨Ao, co, rfl, hlo, hco, hro, hbo⟩;
       have HRN := Lib.hid (rnew_any (w := wo) sp mo co hlo hco HDD.out.2.2.2.1 hro.rd (Nat.le_refl _) HDD.out.2.2.2.2.2);
       have y1' := bcell hbo y1;
       have HBO := Lib.hid hbo; clear hro hbo)
    | (go_at_call 10; refine HRN.out.mono ?_; rintro e wr ⟨v, er, rfl, hre, hbr⟩;
       have HRE := Lib.hid hre; have HBR := Lib.hid (HBO.out.trans (hbr.mono HBO.out.size));
       have hq2 : wr.heap[B2]? = _ := (HBR.out.block B2 (by rw [HS4.out]; exact HLT.out.2.2.1)).trans H2.out;
       have y2 := cell_row hq2 1; have z2 := froz_row hq2 1; have HQ2 := Lib.hid hq2; clear hre hbr hq2))
  have hq2s : (wr.setCell ⟨B2, 1, none⟩ (.pointer v)).heap[B2]? = some (.cells #[.pointer none, .pointer v] 25 (0, 0)) := by
    have h' := HQ2.out
    simp [World.setCell, Array.getElem?_modify, h']
  have hts : Turns (fun k => k = B2) wr (wr.setCell ⟨B2, 1, none⟩ (.pointer v)) := (Turns.refl (fun k => k = B2) wr).setCell ⟨B2, 1, none⟩ _ rfl
  have hblk : ∀ k o, k < b1 → k ≠ B2 → w1.heap[k]? = some o → (wr.setCell ⟨B2, 1, none⟩ (.pointer v)).heap[k]? = some o := fun k o hk hne e =>
    (hts.block k (by have := HBR.out.size; have := HS4.out; omega) hne).trans ((HBR.out.block k (by rw [HS4.out]; exact hk)).trans e)
  have hq0s := hblk B0 _ HLT.out.1 HLT.out.2.2.2.2.2.2.2.2.1 H0.out
  have hq1s := hblk B1 _ HLT.out.2.1 HLT.out.2.2.2.2.2.2.2.2.2.1 H1.out
  have hq3s := hblk B3 _ HLT.out.2.2.2.1 HLT.out.2.2.2.2.2.2.2.2.2.2.1 H3.out
  have hbs : Below w.heap.size w (wr.setCell ⟨B2, 1, none⟩ (.pointer v)) := (HBW.out.trans (HBR.out.mono HBW.out.size)).setCell (p := ⟨B2, 1, none⟩) HLT.out.2.2.2.2.2.2.1 _
  have hszs : b1 ≤ (wr.setCell ⟨B2, 1, none⟩ (.pointer v)).heap.size := by have := hts.size; have := HBR.out.size; have := HS4.out; omega
  have hkeep : ∀ l, Parts wr wo.heap.size l → Parts (wr.setCell ⟨B2, 1, none⟩ (.pointer v)) b1 l := fun l hl => (hl.kept hts (fun i p hp k hk e => by have := hl.low i p hp k hk; have := HBO.out.size; have := HS4.out; have := HLT.out; omega)).rebase (by have := HBO.out.size; have := HS4.out; omega)
  have hsz2 := hts.size
  have HQ2S := Lib.hid hq2s; have HQ0S := Lib.hid hq0s; have HQ1S := Lib.hid hq1s; have HQ3S := Lib.hid hq3s; have HBS := Lib.hid hbs; have HSZS := Lib.hid hszs; have HKEEP := Lib.hid hkeep; have HSZ2 := Lib.hid hsz2
  clear hq2s hts hblk hq0s hq1s hq3s hbs hszs hkeep hsz2 c0 c1 c2 y1 z1 y1' y2 z2 HQ2
  generalize wr.setCell ⟨B2, 1, none⟩ (.pointer v) = ws at *
  have y1 := cell_row HQ2S.out 1
  simp only [List.getElem?_toArray, List.getElem?_cons_zero, List.getElem?_cons_succ] at y1
  go_upto_if 23 with (fail)
  clear y1
  go_cut [] (fun wx => ∃ Y sp' mo' D' A' c', BCut w wx B0 B1 B2 B3 b1 #[.int .i64 sp, .int .u64 (mo : Int), .slice dA D.length dc, .slice sA sn sc, .slice gA gn gc, .slice qA qn qc, .int .u64 (tk : Int)] Y sp' mo' D' A' c')
  case first =>
    rcases HRE.out with ⟨hok, rfl, Y, hv, py, r0, rb⟩ | ⟨hok, hv, rfl⟩
    · injection hv with hv
      subst hv
      have HPY := Lib.hid py; have HR0 := Lib.hid r0; have HRB := Lib.hid rb; have HOK := Lib.hid hok
      clear py r0 rb hok
      go_wp2_with fail
      go_meet
      exact ⟨Y, sp, mo, D, dA, dc, HQ0S.out, HQ1S.out, HQ2S.out, HQ3S.out, HKEEP.out _ HPY.out, HR0.out, Nat.le_trans HRB.out HSZ2.out, HOK.out, HDD.out.2.1, HDD.out.2.2.1, HDD.out.2.2.2.1, HDD.out.2.2.2.2.1.below HBS.out (Nat.le_refl _), HDD.out.2.2.2.2.2, HBS.out, HSZS.out⟩
    · injection hv with hv
      subst hv
      have x0 := cell_row HQ3S.out 0; have x1 := cell_row HQ3S.out 1; have x2 := cell_row HQ3S.out 2
      have f0 := froz_row HQ3S.out 0; have f1 := froz_row HQ3S.out 1; have f2 := froz_row HQ3S.out 2
      simp only [List.getElem?_toArray, List.getElem?_cons_zero, List.getElem?_cons_succ] at x0 x1 x2
      clear hok
      go_upto_region 6 with (fail)
      have e3 : (((ws.setCell ⟨B3, 0, none⟩ (.int .i64 0)).setCell ⟨B3, 1, none⟩ (.int .u64 0)).setCell ⟨B3, 2, none⟩ (.slice none 0 0)).heap[B3]? = some (.cells #[.int .i64 0, .int .u64 0, .slice none 0 0] 30 (0, 0)) := by
        have h' := HQ3S.out
        simp [World.setCell, Array.getElem?_modify, h']
      have tt : Turns (fun k => k = B3) ws (((ws.setCell ⟨B3, 0, none⟩ (.int .i64 0)).setCell ⟨B3, 1, none⟩ (.int .u64 0)).setCell ⟨B3, 2, none⟩ (.slice none 0 0)) := (((Turns.refl (fun k => k = B3) ws).setCell ⟨B3, 0, none⟩ _ rfl).setCell ⟨B3, 1, none⟩ _ rfl).setCell ⟨B3, 2, none⟩ _ rfl
      have hbe : Below w.heap.size w (((ws.setCell ⟨B3, 0, none⟩ (.int .i64 0)).setCell ⟨B3, 1, none⟩ (.int .u64 0)).setCell ⟨B3, 2, none⟩ (.slice none 0 0)) := (((HBS.out.setCell (p := ⟨B3, 0, none⟩) HLT.out.2.2.2.2.2.2.2.1 _).setCell (p := ⟨B3, 1, none⟩) HLT.out.2.2.2.2.2.2.2.1 _).setCell (p := ⟨B3, 2, none⟩) HLT.out.2.2.2.2.2.2.2.1 _)
      have hb_ : ∀ k o, k < b1 → k ≠ B3 → ws.heap[k]? = some o → (((ws.setCell ⟨B3, 0, none⟩ (.int .i64 0)).setCell ⟨B3, 1, none⟩ (.int .u64 0)).setCell ⟨B3, 2, none⟩ (.slice none 0 0)).heap[k]? = some o := fun k o hk hne e => (tt.block k (by have := HSZS.out; omega) hne).trans e
      have e0 := hb_ B0 _ HLT.out.1 HLT.out.2.2.2.2.2.2.2.2.2.2.2.1 HQ0S.out
      have e1 := hb_ B1 _ HLT.out.2.1 HLT.out.2.2.2.2.2.2.2.2.2.2.2.2 HQ1S.out
      have e2 := hb_ B2 _ HLT.out.2.2.1 (fun e => HLT.out.2.2.2.2.2.2.2.2.2.2.1 e.symm) HQ2S.out
      have HE0 := Lib.hid e0; have HE1 := Lib.hid e1; have HE2 := Lib.hid e2; have HE3 := Lib.hid e3; have HBE := Lib.hid hbe
      have HSE : Hid (b1 ≤ (((ws.setCell ⟨B3, 0, none⟩ (.int .i64 0)).setCell ⟨B3, 1, none⟩ (.int .u64 0)).setCell ⟨B3, 2, none⟩ (.slice none 0 0)).heap.size) := Lib.hid (Nat.le_trans HSZS.out tt.size)
      clear e0 e1 e2 e3 tt hbe hb_ x0 x1 x2 f0 f1 f2
      generalize (((ws.setCell ⟨B3, 0, none⟩ (.int .i64 0)).setCell ⟨B3, 1, none⟩ (.int .u64 0)).setCell ⟨B3, 2, none⟩ (.slice none 0 0)) = we at *
      have x0 := cell_row HE3.out 0; have x1 := cell_row HE3.out 1; have x2 := cell_row HE3.out 2
      have y1 := cell_row HE2.out 1; have z1 := froz_row HE2.out 1
      simp only [List.getElem?_toArray, List.getElem?_cons_zero, List.getElem?_cons_succ] at x0 x1 x2 y1
      have hoc : Calls Tryz.prog 11 #[.agg #[.int .i64 0, .int .u64 0, .slice none 0 0]] we fun e w' => S3.OthC we w' 0 0 [] e := S3.otherC_any (D := []) (b2 := 0) 0 0 0 S3.Rd.nil (Nat.zero_le _) (by simp)
      have HOC := Lib.hid hoc
      clear hoc
      go_wp2_with (first
        | (go_at_call 11; refine HOC.out.mono ?_; rintro e wo2 ⟨Ao2, co2, rfl, hlo2, hco2, hro2, hbo2⟩;
           have HRN2 := Lib.hid (show Calls Tryz.prog 10 #[.agg #[.int .i64 0, .int .u64 0, .slice Ao2 0 co2]] wo2 fun e w' => ∃ v er, e = .returned (.tuple #[.pointer v, .int .i64 er]) ∧ RNewE wo2 w' 0 0 [] (.pointer v) er ∧ Below wo2.heap.size wo2 w' from rnew_any (w := wo2) (D := []) 0 0 co2 hlo2 hco2 (by omega) hro2.rd (Nat.le_refl _) (fun d hd => by cases hd));
           have y1' := bcell hbo2 y1;
           have HBO2 := Lib.hid hbo2; clear hro2 hbo2)
        | (go_at_call 10; refine HRN2.out.mono ?_; rintro e wr2 ⟨v2, er2, rfl, hre2, hbr2⟩;
           have HRE2 := Lib.hid hre2; have HBR2 := Lib.hid (HBO2.out.trans (hbr2.mono HBO2.out.size));
           have hq2 : wr2.heap[B2]? = _ := (HBR2.out.block B2 (by have := HSE.out; have := HLT.out; omega)).trans HE2.out;
           have y2 := cell_row hq2 1; have z2 := froz_row hq2 1; have HQ22 := Lib.hid hq2; clear hre2 hbr2 hq2))
      rcases HRE2.out with ⟨hok2, rfl, Y, hv2, py, r0, rb⟩ | ⟨hok2, _, _⟩
      · injection hv2 with hv2
        subst hv2
        have hq2s : (wr2.setCell ⟨B2, 1, none⟩ (Pw Y.wB)).heap[B2]? = some (.cells #[.pointer none, Pw Y.wB] 25 (0, 0)) := by
          have h' := HQ22.out
          simp [World.setCell, Array.getElem?_modify, h']
        have hts : Turns (fun k => k = B2) wr2 (wr2.setCell ⟨B2, 1, none⟩ (Pw Y.wB)) := (Turns.refl (fun k => k = B2) wr2).setCell ⟨B2, 1, none⟩ _ rfl
        have hblk : ∀ k o, k < b1 → k ≠ B2 → we.heap[k]? = some o → (wr2.setCell ⟨B2, 1, none⟩ (Pw Y.wB)).heap[k]? = some o := fun k o hk hne e =>
          (hts.block k (by have := HBR2.out.size; have := HSE.out; omega) hne).trans ((HBR2.out.block k (by have := HSE.out; omega)).trans e)
        have hbs2 : Below w.heap.size w (wr2.setCell ⟨B2, 1, none⟩ (Pw Y.wB)) := (HBE.out.trans (HBR2.out.mono HBE.out.size)).setCell (p := ⟨B2, 1, none⟩) HLT.out.2.2.2.2.2.2.1 _
        go_meet
        exact ⟨Y, 0, 0, [], none, 0, hblk B0 _ HLT.out.1 HLT.out.2.2.2.2.2.2.2.2.1 HE0.out, hblk B1 _ HLT.out.2.1 HLT.out.2.2.2.2.2.2.2.2.2.1 HE1.out, hq2s, hblk B3 _ HLT.out.2.2.2.1 HLT.out.2.2.2.2.2.2.2.2.2.2.1 HE3.out,
          (py.kept hts (fun i p hp k hk e => by have := py.low i p hp k hk; have := HBO2.out.size; have := HSE.out; have := HLT.out; omega)).rebase (by have := HBO2.out.size; have := HSE.out; omega),
          r0, Nat.le_trans rb hts.size, hok2, by simp, by omega, by omega, S3.Rd.nil, (fun d hd => by cases hd), hbs2, Nat.le_trans (Nat.le_trans HSE.out HBR2.out.size) hts.size⟩
      · exact absurd hok2 (by decide)
  case rest =>
    obtain ⟨Y, sp', mo', D', A', c', hc⟩ := hcut
    have x0 := cell_row hc.p3 0; have x1 := cell_row hc.p3 1; have x2 := cell_row hc.p3 2
    simp only [List.getElem?_toArray, List.getElem?_cons_zero, List.getElem?_cons_succ] at x0 x1 x2
    have HNW := Lib.hid (wnew_any sp' mo' c' hc.dl hc.dc hc.mm hc.rd hc.bl.size hc.dd)
    have HC := Lib.hid hc
    clear hc HRE HBR HQ0S HQ1S HQ2S HQ3S HBS HSZS HKEEP HSZ2 HBO HRD1 HBW HS4 H0 H1 H2 H3 HRN hlo hco
    go_upto_region 8 with (first
      | (go_at_call 12; refine HNW.out.mono ?_; rintro e wn ⟨v, er, rfl, hwe, hbn⟩;
         have hq2 : wn.heap[B2]? = _ := (hbn.block B2 (by have := HC.out.sz; have := HLT.out; omega)).trans HC.out.p2;
         have y2 := cell_row hq2 0; have z2 := froz_row hq2 0; have HQ2 := Lib.hid hq2; have HWE := Lib.hid hwe; have HBN := Lib.hid hbn; clear hq2 hwe hbn))
    rcases HWE.out with ⟨_, rfl, X, hv, pw, a0⟩ | ⟨hok, _, _⟩
    · injection hv with hv
      subst hv
      have hbg := bg_first (base := b1) (w0 := wn) HC.out.py HC.out.r0 HC.out.rb pw a0 HBN.out (Below.refl _ _) (by have := HC.out.ok; simp [okC] at this; omega)
      have hts : Turns (fun k => k = B2) wn (wn.setCell ⟨B2, 0, none⟩ (Pw X.wB)) := (Turns.refl (fun k => k = B2) wn).setCell ⟨B2, 0, none⟩ _ rfl
      have hbg2 := hbg.outside hts (fun k e => by have := HLT.out; omega)
      have hq2s : (wn.setCell ⟨B2, 0, none⟩ (Pw X.wB)).heap[B2]? = some (.cells #[Pw X.wB, Pw Y.wB] 25 (0, 0)) := by
        have h' := HQ2.out
        simp [World.setCell, Array.getElem?_modify, h']
      have g0 := (hts.block B0 (by have := HBN.out.size; have := HC.out.sz; have := HLT.out; omega) HLT.out.2.2.2.2.2.2.2.2.1).trans ((HBN.out.block B0 (by have := HC.out.sz; have := HLT.out; omega)).trans HC.out.p0)
      have g1 := (hts.block B1 (by have := HBN.out.size; have := HC.out.sz; have := HLT.out; omega) HLT.out.2.2.2.2.2.2.2.2.2.1).trans ((HBN.out.block B1 (by have := HC.out.sz; have := HLT.out; omega)).trans HC.out.p1)
      have hbs : Below w.heap.size w (wn.setCell ⟨B2, 0, none⟩ (Pw X.wB)) := (HC.out.bl.trans (HBN.out.mono HC.out.bl.size)).setCell (p := ⟨B2, 0, none⟩) HLT.out.2.2.2.2.2.2.1 _
      have hsz : b1 ≤ (wn.setCell ⟨B2, 0, none⟩ (Pw X.wB)).heap.size := hbg2.pr.size
      have HBG := Lib.hid hbg2; have HG0 := Lib.hid g0; have HG1 := Lib.hid g1; have HG2 := Lib.hid hq2s; have HBS := Lib.hid hbs; have HSZ := Lib.hid hsz
      obtain ⟨WB, hWB⟩ : ∃ WB, WB = X.wB := ⟨_, rfl⟩
      obtain ⟨RB, hRB⟩ : ∃ RB, RB = Y.wB := ⟨_, rfl⟩
      rw [← hWB, ← hRB] at HG2
      rw [← hWB] at HBG HG0 HG1 HBS HSZ ⊢
      rw [← hRB] at HBG
      have HBE : Hid (BgE (wn.setCell ⟨B2, 0, none⟩ (Pw WB)) (wn.setCell ⟨B2, 0, none⟩ (Pw WB)) b1 WB RB 0 0 1 []) := Lib.hid ⟨_, X, Y, HBG.out⟩
      clear hbg hts hbg2 hq2s g0 g1 hbs hsz HC HNW HWE HBN HQ2 HBG pw a0 x0 x1 x2 y2 z2 hWB hRB
      generalize wn.setCell ⟨B2, 0, none⟩ (Pw WB) = wS at *
      have y0 := cell_row HG2.out 0
      simp only [List.getElem?_toArray, List.getElem?_cons_zero, List.getElem?_cons_succ] at y0
      go_upto_region 11 with (fail)
      clear y0
      have HWB1 : Hid (w.heap.size ≤ b1) := Lib.hid (by have := HLT.out; omega)
      have HCELL : Hid (∀ W, Below b1 wS W → W.cell? ⟨B2, 0, none⟩ = some (Pw WB) ∧ W.cell? ⟨B2, 1, none⟩ = some (Pw RB) ∧ W.cell? ⟨B1, 0, none⟩ = some (.pointer none) ∧ W.cell? ⟨B0, 3, none⟩ = some (.slice sA sn sc) ∧ W.cell? ⟨B0, 4, none⟩ = some (.slice gA gn gc) ∧ W.cell? ⟨B0, 5, none⟩ = some (.slice qA qn qc) ∧ W.cell? ⟨B0, 6, none⟩ = some (.int .u64 (tk : Int))) := Lib.hid (fun W q => by
        have k2 := (q.block B2 HLT.out.2.2.1).trans HG2.out
        have k1 := (q.block B1 HLT.out.2.1).trans HG1.out
        have k0 := (q.block B0 HLT.out.1).trans HG0.out
        exact ⟨cell_row k2 0, cell_row k2 1, cell_row k1 0, cell_row k0 3, cell_row k0 4, cell_row k0 5, cell_row k0 6⟩)
      have HIN : Hid (∀ W, Below b1 wS W → Below w.heap.size w W) := Lib.hid (fun W q => HBS.out.trans (q.mono HWB1.out))
      clear HBS
      go_upto_block 0 with fail
      go_cut [] (fun wx => BgE wS wx b1 WB RB 0 12 7 [])
      case first =>
        go_wp2_with fail
        go_loopg [5, 6] 6 (fun q s5 s6 wx => ∃ (i : Nat) (bits : Int), i ≤ gn ∧ i ≤ 6 ∧ q = 6 - i ∧ s6 = .int .i64 (i : Int) ∧ s5 = .int .i64 bits ∧ (0 ≤ bits ∧ bits ≤ 8) ∧ BgE wS wx b1 WB RB 0 (2 * i) (1 + i) [])
        case atStart => exact ⟨0, 2, by omega, by omega, rfl, rfl, rfl, by omega, HBE.out⟩
        case round =>
          obtain ⟨i, bits, hi1, hi2, rfl, rfl, rfl, hbits, M, X, Y, hbg⟩ := hrel
          obtain ⟨k0, k1, k2, k3, k4, k5, k6⟩ := HCELL.out _ hbg.bl
          by_cases hin : i < gn ∧ i < 6
          · obtain ⟨hi3, hi4⟩ := hin
            obtain ⟨lb, lo, hga, hlb, hgc⟩ := HGI.out.1 (by omega)
            have HGC : Hid (∀ W, Below b1 wS W → W.cell? ⟨lb, lo + i, none⟩ = some (.int .i64 (G i))) := Lib.hid (fun W q => ((HIN.out W q).cell (p := ⟨lb, lo + i, none⟩) hlb).trans (hgc i hi3))
            subst hga
            obtain ⟨a, M', h1, h2, h5, h6⟩ := bg_grow (E := []) hbg.gd (by omega) (fr := bits) (tg := G i) (by unfold S10.InI; omega) (HGI.out.2.1 i hi3)
            have HGR := Lib.hid h5; have HGW := Lib.hid h6; have HAF := Lib.hid (And.intro h1 h2)
            have d1 : decide ((i : Int) < (gn : Int)) = true := by simp; omega
            have d2 : decide ((i : Int) < 6) = true := by simp; omega
            have hi5 : (i : Int) < (gn : Int) := by omega
            have k8 := HGC.out _ hbg.bl
            have k7 := hbg.c.2.2.2.2.2
            have HB0 := Lib.hid hbg; have HBI := Lib.hid hbits
            clear hbg h1 h2 h5 h6 hgc hlb hbits k0 k2 k3 k5 k6
            go_upto_region 14 with (fail)
            go_still_tail 11, (by kernel_rfl)
            change wpList _ _ _ _ _ wr.drew
            go_upto_if 66 with (go_at_call 13; refine (HGR.out _ _ _ _ _ _ _ _ _ (HB0.out.new ((Below.refl _ _).drew))).mono ?_; rintro e w3 ⟨rfl, Y3, h3, ht3⟩)
            have H3B := Lib.hid h3
            clear h3 ht3 HB0 HGR
            cases a
            · obtain rfl := HAF.out.1 rfl
              clear k1 k4 k7 k8
              go_wp2_with fail
              go_roundg (6 - (i + 1))
              case measure => omega
              case rel => exact ⟨i + 1, bits, by omega, by omega, rfl, by go_num, rfl, HBI.out, _, X, Y3, H3B.out.mono (Nat.le_refl _) (by omega) (by omega)⟩
            · have hg28 := HAF.out.2 rfl
              have HG28 := Lib.hid hg28
              have k7 := H3B.out.c.2.2.1
              clear hg28 HAF
              go_upto_region 15 with (fail)
              obtain ⟨j0, j1, j2, j3, j4, j5, j6⟩ := HCELL.out _ H3B.out.bl
              have j8 := HGC.out _ H3B.out.bl
              go_still_tail 11, (by kernel_rfl)
              change wpList _ _ _ _ _ w3.drew
              go_upto_region 16 with (go_at_call 14; refine (HGW.out _ _ _ _ _ _ _ _ _ (by omega) (H3B.out.new ((Below.refl _ _).drew))).mono ?_; rintro e w4 ⟨rfl, X4, h4, ht4⟩)
              obtain ⟨l0, l1, l2, l3, l4, l5, l6⟩ := HCELL.out _ h4.bl
              have l8 := HGC.out _ h4.bl
              obtain ⟨gv, hgv⟩ : ∃ gv : Nat, G i = (gv : Int) := Int.eq_ofNat_of_zero_le (by have := HG28.out; omega)
              have hwu : IntKind.u64.wrap (G i) = (gv : Int) := by
                rw [IntKind.wrap_u64]
                have := HG28.out
                omega
              have hps : Calls Tryz.prog 15 #[.agg #[Pw WB, Pw RB], .agg #[.int .u32 0, .int .u64 (gv : Int)]] w4 fun e w' => e = .returned (.tuple #[]) ∧ BgE wS w' b1 WB RB 0 (2 * i + 2) (1 + i + 1) [] := pair_store h4 (a := 0) (v := gv) (by omega) (by have := HG28.out; omega) (by omega)
              have HPS := Lib.hid hps; have HWU := Lib.hid hwu
              clear hgv h4 ht4 hps HGW H3B j0 j1 j2 j3 j4 j5 j6 j8 k7 hwu
              go_upto_region 17 with (fail)
              have hwu := HWU.out
              clear l8
              go_wp2_with (go_at_call 15; refine HPS.out.mono ?_; rintro e w5 ⟨rfl, M5, X5, Y5, h5⟩)
              go_roundg (6 - (i + 1))
              case measure => omega
              case rel => exact ⟨i + 1, G i, by omega, by omega, rfl, by go_num, rfl, by have := HG28.out; omega, M5, X5, Y5, h5.mono (Nat.le_refl _) (by omega) (by omega)⟩
          · have HBX := Lib.hid (show BgE wS wr b1 WB RB 0 12 7 [] from ⟨M, X, Y, hbg.mono (Nat.le_refl _) (by omega) (by omega)⟩)
            clear hbg hbits HBE
            by_cases hi5 : i < gn
            · have d1 : decide ((i : Int) < (gn : Int)) = true := by simp; omega
              have d2 : decide ((i : Int) < 6) = false := by simp; omega
              go_wp2_with fail
              go_meet
              exact HBX.out
            · have d1 : decide ((i : Int) < (gn : Int)) = false := by simp; omega
              go_wp2_with fail
              go_meet
              exact HBX.out
      case rest =>
        have HB1 := Lib.hid hcut
        clear hcut HBE
        go_upto_region 18 with (fail)
        go_upto_block 2 with fail
        go_cut [] (fun wx => BgE wS wx b1 WB RB 1200 12 7 [])
        case first =>
          go_wp2_with fail
          go_loopg [7, 8, 9] 20 (fun q s7 s8 s9 wx => ∃ i : Nat, i ≤ qn ∧ i ≤ 20 ∧ q = 20 - i ∧ s7 = .int .i64 (i : Int) ∧ BgE wS wx b1 WB RB (60 * i) 12 7 [])
          case atStart => exact ⟨0, by omega, by omega, rfl, rfl, HB1.out⟩
          case round =>
            obtain ⟨i, hi1, hi2, rfl, rfl, M, X, Y, hbg⟩ := hrel
            obtain ⟨k0, k1, k2, k3, k4, k5, k6⟩ := HCELL.out _ hbg.bl
            by_cases hin : i < qn ∧ i < 20
            · obtain ⟨hi3, hi4⟩ := hin
              obtain ⟨lb, lo, hqa, hlb, hqc⟩ := HQI.out.1 (by omega)
              have HQC : Hid (∀ W, Below b1 wS W → W.cell? ⟨lb, lo + i * 5, none⟩ = some (.int .i64 (Q i).b) ∧ W.cell? ⟨lb, lo + i * 5 + 1, none⟩ = some (.int .i64 (Q i).i) ∧ W.cell? ⟨lb, lo + i * 5 + 2, none⟩ = some (.slice (Q i).A (Q i).D.length (Q i).c) ∧ W.cell? ⟨lb, lo + i * 5 + 3, none⟩ = some (.int .u64 (Q i).ta) ∧ W.cell? ⟨lb, lo + i * 5 + 4, none⟩ = some (.int .u64 (Q i).tf)) := Lib.hid (fun W q => by
                have kk : ∀ j, W.cell? ⟨lb, j, none⟩ = w.cell? ⟨lb, j, none⟩ := fun j => (HIN.out W q).cell (p := ⟨lb, j, none⟩) hlb
                obtain ⟨q1, q2, q3, q4, q5⟩ := hqc i hi3
                exact ⟨(kk _).trans q1, (kk _).trans q2, (kk _).trans q3, (kk _).trans q4, (kk _).trans q5⟩)
              have hok := HQI.out.2.1 i hi3
              have HOK := Lib.hid hok
              clear hqc hok
              subst hqa
              generalize Q i = qq at *
              obtain ⟨b, i2, A, c, D, ta, tf⟩ := qq
              dsimp only at *
              obtain ⟨q1, q2, q3, q4, q5⟩ := HQC.out _ hbg.bl
              have d1 : decide ((i : Int) < (qn : Int)) = true := by simp; omega
              have d2 : decide ((i : Int) < 20) = true := by simp; omega
              have hi5 : (i : Int) < (qn : Int) := by omega
              have HB0 := Lib.hid hbg
              have HO2 : Hid (S10.InI b ∧ S10.Rd w w.heap.size A (S10.flat D) ∧ S10.Keys D) := Lib.hid ⟨HOK.out.b, HOK.out.rd, HOK.out.keys⟩
              clear hbg k0 k1 k2 k3 k4 k6 hlb HOK
              go_upto_region 22 with (fail)
              have h8 := HB0.out.push (blockP wr.heap.size (.cells #[.int .i64 b, .int .i64 i2, .slice A D.length c, .int .u64 ta, .int .u64 tf] 81)) (below1 _ _) (heap_alloc_new _ _) (fun k e => Nat.le_of_eq (show k = wr.heap.size from e).symm)
              have H8 := Lib.hid h8
              clear h8 HB0 q1 q2 q3 q4 q5
              generalize wr.alloc (.cells #[.int .i64 b, .int .i64 i2, .slice A D.length c, .int .u64 ta, .int .u64 tf] 81) = w8 at *
              generalize wr.heap.size = B8 at *
              have hq8 : w8.heap[B8]? = some (.cells #[.int .i64 b, .int .i64 i2, .slice A D.length c, .int .u64 ta, .int .u64 tf] 81) := H8.out.pr.ok 14 _ rfl
              have e2 := cell_row hq8 2
              simp only [List.getElem?_toArray, List.getElem?_cons_zero, List.getElem?_cons_succ] at e2
              by_cases hlen : D.length ≤ 20
              · have d3 : decide ((20 : Int) < (D.length : Int)) = false := by simp; omega
                have e0 := cell_row hq8 0; have e1 := cell_row hq8 1
                simp only [List.getElem?_toArray, List.getElem?_cons_zero, List.getElem?_cons_succ] at e0 e1
                have HL := Lib.hid hlen
                clear hq8 hlen
                go_upto_region 24 with (go_at_call 16; refine (S10.otherP_any b i2 _).mono ?_; rintro e w5 ⟨rfl, hb5⟩)
                have h9 := (H8.out.new hb5).push (blockP w5.heap.size (.cells #[.int .i64 b, .int .i64 i2] 82)) (below1 _ _) (heap_alloc_new _ _) (fun k e => Nat.le_of_eq (show k = w5.heap.size from e).symm)
                obtain ⟨B9, hB9⟩ : ∃ B9, B9 = w5.heap.size := ⟨_, rfl⟩
                obtain ⟨E, hE⟩ : ∃ E, E = ([] ++ [blockP B8 (.cells #[.int .i64 b, .int .i64 i2, .slice A D.length c, .int .u64 ta, .int .u64 tf] 81)]) ++ [blockP B9 (.cells #[.int .i64 b, .int .i64 i2] 82)] := ⟨_, rfl⟩
                rw [← hB9] at h9 ⊢
                rw [← hE] at h9
                have HEC : Hid (∀ W X Y M RM N cn tn, Bg wS W b1 WB RB N cn tn M RM E X Y → W.heap[B8]? = some (.cells #[.int .i64 b, .int .i64 i2, .slice A D.length c, .int .u64 ta, .int .u64 tf] 81) ∧ W.heap[B9]? = some (.cells #[.int .i64 b, .int .i64 i2] 82)) := Lib.hid (fun W X Y M RM N cn tn h => by
                  subst hE
                  exact ⟨h.pr.ok 14 _ rfl, h.pr.ok 15 _ rfl⟩)
                have H9 := Lib.hid h9
                clear h9 H8 hb5 e0 e1 e2 hE hB9
                generalize w5.alloc (.cells #[.int .i64 b, .int .i64 i2] 82) = w9 at *
                obtain ⟨a1, M1, hp1, hp2⟩ := bg_put (E := E) H9.out.gd HO2.out.1 i2 HO2.out.2.2 (by have := HL.out; omega)
                have HP1 := Lib.hid hp1; have HP2 := Lib.hid hp2
                clear hp1 hp2
                obtain ⟨k0, k1, k2, k3, k4, k5, k6⟩ := HCELL.out _ H9.out.bl
                obtain ⟨g8, g9⟩ := HEC.out _ _ _ _ _ _ _ _ H9.out
                have e0 := cell_row g8 0; have e1 := cell_row g8 1; have e2 := cell_row g8 2
                simp only [List.getElem?_toArray, List.getElem?_cons_zero, List.getElem?_cons_succ] at e0 e1 e2
                have m4 := H9.out.c.2.2.1
                clear k1 k2 k3 k4 k5 k6 g8 g9
                have HRQ : Hid (∀ W, Below b1 wS W → S10.Rd W w.heap.size A (S10.flat D) ∧ w.heap.size ≤ W.heap.size) := Lib.hid (fun W q => ⟨HO2.out.2.1.below (HIN.out W q) (Nat.le_refl _), (HIN.out W q).size⟩)
                go_still_tail 9, (by kernel_rfl)
                change wpList _ _ _ _ _ w9.drew
                go_upto_region 25 with (go_at_call 17; refine (HP1.out _ _ _ _ _ _ _ _ _ _ _ _ (H9.out.new ((Below.refl _ _).drew)) (HRQ.out _ H9.out.bl).1 (HRQ.out _ H9.out.bl).2).mono ?_; rintro e w10 ⟨rfl, X10, h10, ht10⟩)
                have H10 := Lib.hid h10
                clear h10 ht10 k0 e0 e1 e2 m4 HP1 H9
                obtain ⟨k0, k1, k2, k3, k4, k5, k6⟩ := HCELL.out _ H10.out.bl
                obtain ⟨g8, g9⟩ := HEC.out _ _ _ _ _ _ _ _ H10.out
                have e2 := cell_row g8 2; have f0 := cell_row g9 0; have f1 := cell_row g9 1
                simp only [List.getElem?_toArray, List.getElem?_cons_zero, List.getElem?_cons_succ] at e2 f0 f1
                have m4 := H10.out.c.2.2.2.2.2
                clear k0 k2 k3 k4 k5 k6 g8 g9
                have HOT := Lib.hid (fun (W : World) (q : Below w10.heap.size w10 W) => S10.others_any (w := W) (A := A) (D := D) c (HRQ.out W (H10.out.bl.trans (q.mono H10.out.pr.size))).1 (HRQ.out W (H10.out.bl.trans (q.mono H10.out.pr.size))).2 (by have := HL.out; omega))
                have HKP : Hid (∀ W, Below w10.heap.size w10 W → W.cell? ⟨B2, 1, none⟩ = some (Pw RB) ∧ W.cell? ⟨RB, 4, none⟩ = some Y.ts ∧ W.cell? ⟨B9, 0, none⟩ = some (.int .i64 b) ∧ W.cell? ⟨B9, 1, none⟩ = some (.int .i64 i2) ∧ W.cell? ⟨B8, 2, none⟩ = some (.slice A D.length c)) := Lib.hid (fun W q => ⟨bcell q k1, bcell q m4, bcell q f0, bcell q f1, bcell q e2⟩)
                have HKQ : Hid (∀ W Y', Bg wS W b1 WB RB (60 * i + 60) 12 7 M1 M1 E X10 Y' → Y'.ts = Y.ts → W.cell? ⟨B2, 1, none⟩ = some (Pw RB) ∧ W.cell? ⟨RB, 4, none⟩ = some Y.ts ∧ W.cell? ⟨B9, 0, none⟩ = some (.int .i64 b) ∧ W.cell? ⟨B9, 1, none⟩ = some (.int .i64 i2) ∧ W.cell? ⟨B8, 2, none⟩ = some (.slice A D.length c)) := Lib.hid (fun W Y' h ht => by
                  obtain ⟨g8, g9⟩ := HEC.out _ _ _ _ _ _ _ _ h
                  have hr := h.c.2.2.2.2.2
                  rw [ht] at hr
                  exact ⟨(HCELL.out _ h.bl).2.1, hr, cell_row g9 0, cell_row g9 1, cell_row g8 2⟩)
                go_region_held3 (fun w' => w'.cell? ⟨B2, 1, none⟩ = some (Pw RB) ∧ w'.cell? ⟨RB, 4, none⟩ = some Y.ts ∧ w'.cell? ⟨B9, 0, none⟩ = some (.int .i64 b) ∧ w'.cell? ⟨B9, 1, none⟩ = some (.int .i64 i2) ∧ w'.cell? ⟨B8, 2, none⟩ = some (.slice A D.length c))
                  (first
                    | exact ⟨k1, m4, f0, f1, e2⟩
                    | exact HKP.out _ HB11.out
                    | exact HKQ.out _ _ H12.out HT12.out)
                  (first
                    | (go_at_call 19; refine (HOT.out _ ((Below.refl _ _).drew)).mono ?_; rintro e w11 ⟨so, rfl, hro, _, hb11⟩; obtain ⟨A11, c11, hs11, _, _⟩ := S10.Row.shape hro; subst hs11; have HB11 : Hid (Below w10.heap.size w10 w11) := Lib.hid (((Below.refl _ w10).drew).trans hb11); have HRO := Lib.hid (S10.Row.rd hro); clear hro hb11)
                    | (go_at_call 18; refine (HP2.out _ _ _ _ _ _ _ _ _ _ _ _ (H10.out.new HB11.out) HRO.out (Nat.le_refl _)).mono ?_; rintro e w12 ⟨rfl, Y12, h12, ht12⟩; have H12 := Lib.hid h12; have HT12 := Lib.hid ht12; clear h12 ht12))
                clear k1 e2 f0 f1 m4 HKP HKQ HOT HP2 H10
                all_goals
                  obtain ⟨a2, M2, hp3, hp4⟩ := bg_putT (E := E) H12.out.gd HO2.out.1 i2 ta tf
                  have HP3 := Lib.hid hp3; have HP4 := Lib.hid hp4
                  clear hp3 hp4
                  obtain ⟨k0, k1, k2, k3, k4, k5, k6⟩ := HCELL.out _ H12.out.bl
                  obtain ⟨g8, g9⟩ := HEC.out _ _ _ _ _ _ _ _ H12.out
                  have e0 := cell_row g8 0; have e1 := cell_row g8 1; have e3 := cell_row g8 3; have e4 := cell_row g8 4
                  simp only [List.getElem?_toArray, List.getElem?_cons_zero, List.getElem?_cons_succ] at e0 e1 e3 e4
                  have m4 := H12.out.c.2.2.1
                  clear k1 k2 k3 k4 k5 k6 g8 g9
                  go_upto_region 26 with (fail)
                  go_still_tail 9, (by kernel_rfl)
                  change wpList _ _ _ _ _ w12.drew
                  go_upto_region 27 with (go_at_call 20; refine (HP3.out _ _ _ _ _ _ _ _ _ (H12.out.new ((Below.refl _ _).drew))).mono ?_; rintro e w13 ⟨rfl, X13, h13, ht13⟩)
                  have H13 := Lib.hid h13
                  clear h13 ht13 k0 e0 e1 e3 e4 m4 HP3 H12 HT12
                  obtain ⟨k0, k1, k2, k3, k4, k5, k6⟩ := HCELL.out _ H13.out.bl
                  obtain ⟨g8, g9⟩ := HEC.out _ _ _ _ _ _ _ _ H13.out
                  have e3 := cell_row g8 3; have e4 := cell_row g8 4; have f0 := cell_row g9 0; have f1 := cell_row g9 1
                  simp only [List.getElem?_toArray, List.getElem?_cons_zero, List.getElem?_cons_succ] at e3 e4 f0 f1
                  have m4 := H13.out.c.2.2.2.2.2
                  clear k0 k2 k3 k4 k5 k6 g8 g9
                  go_still_tail 13, (by kernel_rfl)
                  change wpList _ _ _ _ _ w13.drew
                  go_wp2_with (go_at_call 21; refine (HP4.out _ _ _ _ _ _ _ _ _ (H13.out.new ((Below.refl _ _).drew))).mono ?_; rintro e w14 ⟨rfl, Y14, h14, ht14⟩)
                  go_roundg (20 - (i + 1))
                  case measure => omega
                  case rel => exact ⟨i + 1, by omega, by omega, rfl, by go_num, _, _, _, h14.drop.mono (by omega) (Nat.le_refl _) (Nat.le_refl _)⟩
              · have d3 : decide ((20 : Int) < (D.length : Int)) = true := by simp; omega
                clear hq8 hlen
                go_wp2_with fail
                go_roundg (20 - (i + 1))
                case measure => omega
                case rel => exact ⟨i + 1, by omega, by omega, rfl, by go_num, M, X, Y, H8.out.drop.mono (by omega) (Nat.le_refl _) (Nat.le_refl _)⟩
            · have HBX := Lib.hid (show BgE wS wr b1 WB RB 1200 12 7 [] from ⟨M, X, Y, hbg.mono (by omega) (Nat.le_refl _) (Nat.le_refl _)⟩)
              clear hbg
              by_cases hi5 : i < qn
              · have d1 : decide ((i : Int) < (qn : Int)) = true := by simp; omega
                have d2 : decide ((i : Int) < 20) = false := by simp; omega
                go_wp2_with fail
                go_meet
                exact HBX.out
              · have d1 : decide ((i : Int) < (qn : Int)) = false := by simp; omega
                go_wp2_with fail
                go_meet
                exact HBX.out
        case rest =>
          obtain ⟨M, X, Y, hbg⟩ := hcut
          obtain ⟨k0, k1, k2, k3, k4, k5, k6⟩ := HCELL.out _ hbg.bl
          have HPT := Lib.hid (pair_tick hbg HTK.out)
          clear hbg HB1 HGI HQI HTK k2 k3 k4 k5
          go_upto_region 29 with (go_at_call 22; refine HPT.out.mono ?_; rintro e w20 ⟨rfl, hbt⟩)
          have HBT := Lib.hid hbt
          clear hbt k0 k1 k6 HPT
          go_wp2_with fail
          go_loopg [10] sn (fun q s10 wx => ∃ i : Nat, i ≤ sn ∧ q = sn - i ∧ s10 = .int .i64 (i : Int) ∧ BgE wS wx b1 WB RB 1200 (12 + 2 * i) 7 [])
          case atStart => exact ⟨0, by omega, rfl, rfl, HBT.out⟩
          case round =>
            obtain ⟨i, hi1, rfl, rfl, M, X, Y, hbg⟩ := hrel
            obtain ⟨k0, k1, k2, k3, k4, k5, k6⟩ := HCELL.out _ hbg.bl
            by_cases hin : i < sn
            · obtain ⟨lb, lo, hsa, hlb, hsc⟩ := HSI.out.2.1 (by omega)
              obtain ⟨q1, q2⟩ := hsc i hin
              have r1 := ((HIN.out _ hbg.bl).cell (p := ⟨lb, lo + i * 2, none⟩) hlb).trans q1
              have r2 := ((HIN.out _ hbg.bl).cell (p := ⟨lb, lo + i * 2 + 1, none⟩) hlb).trans q2
              obtain ⟨ha, hv⟩ := HSI.out.2.2 i hin
              subst hsa
              generalize SA i = aa at *
              generalize SV i = vv at *
              have HPS := Lib.hid (fun (W : World) (q : Below wr.heap.size wr W) => pair_store (hbg.new q) ha hv (by have := HSI.out.1; omega))
              have hi5 : (i : Int) < (sn : Int) := by omega
              have hsn9 := HSI.out.1
              have d1 : decide ((i : Int) < (sn : Int)) = true := by simp; omega
              clear hbg hsc q1 q2 ha hv hlb k2 k4 k5 k6
              go_upto_region 32 with (fail)
              go_still_tail 6, (by kernel_rfl)
              change wpList _ _ _ _ _ wr.drew
              go_wp2_with (go_at_call 15; refine (HPS.out _ ((Below.refl _ _).drew)).mono ?_; rintro e w21 ⟨rfl, hb21⟩)
              go_roundg (sn - (i + 1))
              case measure => omega
              case rel => exact ⟨i + 1, by omega, rfl, by go_num, (by
                obtain ⟨M2, X2, Y2, h2⟩ := hb21
                exact ⟨M2, X2, Y2, h2.mono (Nat.le_refl _) (by omega) (Nat.le_refl _)⟩)⟩
            · obtain rfl : i = sn := by omega
              have d1 : decide ((i : Int) < (i : Int)) = false := by simp
              have hq1 : wr.heap[B1]? = some (.cells #[.pointer none, .pointer none] 25 (0, 0)) := (hbg.bl.block B1 HLT.out.2.1).trans HG1.out
              have z0 := cell_row hq1 0; have z1 := cell_row hq1 1; have f0 := froz_row hq1 0; have f1 := froz_row hq1 1
              simp only [List.getElem?_toArray, List.getElem?_cons_zero, List.getElem?_cons_succ] at z0 z1
              have hts : Turns (fun k => k = B1) wr ((wr.setCell ⟨B1, 0, none⟩ (Pw WB)).setCell ⟨B1, 1, none⟩ (Pw RB)) := ((Turns.refl (fun k => k = B1) wr).setCell ⟨B1, 0, none⟩ _ rfl).setCell ⟨B1, 1, none⟩ _ rfl
              have hbo := hbg.outside hts (fun k e => by have := HLT.out; omega)
              have hfb : ((wr.setCell ⟨B1, 0, none⟩ (Pw WB)).setCell ⟨B1, 1, none⟩ (Pw RB)).heap[B1]? = some (.cells #[Pw WB, Pw RB] 25 (0, 0)) := by simp [World.setCell, Array.getElem?_modify, hq1]
              have d4 := cell_row hfb 0; have d5 := cell_row hfb 1
              simp only [List.getElem?_toArray, List.getElem?_cons_zero, List.getElem?_cons_succ] at d4 d5
              have hbl : Below w.heap.size w ((wr.setCell ⟨B1, 0, none⟩ (Pw WB)).setCell ⟨B1, 1, none⟩ (Pw RB)) := ((HIN.out _ hbg.bl).setCell (p := ⟨B1, 0, none⟩) HLT.out.2.2.2.2.2.1 _).setCell (p := ⟨B1, 1, none⟩) HLT.out.2.2.2.2.2.1 _
              obtain ⟨we, hwe⟩ : ∃ we, we = (wr.setCell ⟨B1, 0, none⟩ (Pw WB)).setCell ⟨B1, 1, none⟩ (Pw RB) := ⟨_, rfl⟩
              have hfin : ∃ M X Y, X.wB = WB ∧ Y.wB = RB ∧ Bg w we w.heap.size X.wB Y.wB 1200 2097164 7 M M [] X Y := by
                rw [← hwe] at hbo hbl
                refine ⟨M, X, Y, hbg.wB, hbg.rB, ?_⟩
                rw [hbg.wB, hbg.rB]
                have hbm := hbo.mono (Nat.le_refl 1200) (show 12 + 2 * i ≤ 2097164 by have := HSI.out.1; omega) (Nat.le_refl 7)
                exact { hbm with pr := Parts.rebase hbo.pr HWB1.out, bl := hbl }
              rw [hwe] at hfin
              clear hwe
              have HFIN := Lib.hid hfin
              clear hbg hq1 hts hbo hfb hbl hfin k2 k4 k5 k6
              go_upto_region 33 with (fail)
              go_wp2_with fail
              exact bodyPost_ret (v := .agg #[Pw WB, Pw RB]) (by simp [results, Tryz.results4, go_sem, d4, d5]) rfl (by
                obtain ⟨M', X', Y', e1, e2, h'⟩ := HFIN.out
                exact ⟨M', X', Y', by rw [e1, e2], h'⟩)
    · exact absurd hok (by rw [HC.out.ok]; decide)
end Go.Proofs.YtdodloannlfnlaaGreat.S12
