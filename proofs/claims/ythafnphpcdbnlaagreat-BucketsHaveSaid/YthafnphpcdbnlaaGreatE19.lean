/- Texts of this seat, one behind the other. -/
import Derived.Test.YthafnphpcdbnlaaGreatE18
set_option linter.unusedVariables false
set_option linter.unusedSimpArgs false
namespace Go.Proofs.YthafnphpcdbnlaaGreat.S14
open Go.Proofs.YthafnphpcdbnlaaGreat Go.Proofs.YthafnphpcdbnlaaGreat.S11 Go.Proofs.YthafnphpcdbnlaaGreat.S12 Go.Proofs.YthafnphpcdbnlaaGreat.S13
open Go.RowKit

section
variable {w0 w w' : World} {base WB : Nat} {M : Sd} {r : List Part} {j B : Nat} {K : Fr} {X : Wm}
set_option maxRecDepth 100000 in
set_option maxHeartbeats 8000000 in
theorem beh5 (h : Wf w0 w base WB M r j B K X) (ok : FrOk M K) (hl : K.ln = 5) : Calls Tryz.prog 46 #[Pw B, Pw WB] w (Behind w0 base WB M r j B K) := by
  have hj := h.hj
  have c0 := h.b0
  rw [hl] at c0
  have c2 := h.b2; have c3 := h.b3; have c4 := h.b4
  have hA := h.pushB (.cells #[.bool K.l, .bool K.q, .int .i64 K.h] 81)
  obtain ⟨Q, hQ⟩ : ∃ Q, Q = w.heap.size := ⟨_, rfl⟩
  rw [← hQ] at hA
  have HA := Lib.hid hA; have HJ := Lib.hid hj; have HQ := Lib.hid hQ; have HOK := Lib.hid ok; have HL := Lib.hid hl
  clear h hj hA hQ ok hl
  go_enter Tryz.func46, Tryz.ntmps46
  go_wp2_with fail
  refine wp_scope_two rfl rfl ?_
  go_upto_region 3 with (fail)
  rw [← HQ.out]
  generalize w.alloc (.cells #[.bool K.l, .bool K.q, .int .i64 K.h] 81) = w1 at *
  clear c0 c2 c3 c4
  have c0 := HA.out.b0
  rw [HL.out] at c0
  obtain ⟨kl, kq, kh, kn⟩ := HOK.out.con (by rw [HL.out]; omega) (by rw [HL.out]; omega)
  have hput : S1.putU K.l K.q K.h = K.w := by rw [kl, kq, kh]; exact (word_put kn).1
  have hish : S1.isHead K.h := by rw [kh]; exact S1.head_is _
  go_upto_region 21 with (fail)
  clear c0
  have H2 := Lib.hid HA.out
  obtain ⟨w2, hw2⟩ : ∃ w2, w2 = w1 := ⟨_, rfl⟩
  rw [← hw2] at H2 ⊢
  clear hw2
  obtain ⟨x, hx⟩ : ∃ x, x = S2.look M.L K.a := ⟨_, rfl⟩
  have hsw : Calls Tryz.prog 56 #[Pw B, Pw WB, .agg #[.bool false, .bool false, .int .i64 (-1)]] w2 fun e w' => e = .returned (.bool (decide (x = K.w))) ∧ ∃ X', Wf w0 w' base WB (M.acc 3 K.a (S2.casV x K.w (0))) (r ++ [blockP Q (.cells #[.bool K.l, .bool K.q, .int .i64 K.h] 81)]) j B (K.cas x K.w false false (-1)) X' := by
    have hs := swapped_f H2.out HOK.out.a HOK.out.n hish hput (l2 := false) (q2 := false) (h2 := (-1)) (by unfold S1.isHead; omega)
    rw [show S1.putU false false (-1) = 0 from by decide, ← hx] at hs
    exact hs
  obtain ⟨M1, hM1⟩ : ∃ M1, M1 = M.acc 3 K.a (S2.casV x K.w (0)) := ⟨_, rfl⟩
  rw [← hM1] at hsw
  have HM1 := Lib.hid hM1; have HX := Lib.hid hx
  have HCON := Lib.hid (And.intro kl (And.intro kq (And.intro kh kn)))
  have hlk : M1.lk = M.lk := by rw [hM1]; rfl
  have HLK := Lib.hid hlk
  clear hM1 hput hish kl kq kh kn hlk
  by_cases e : x = K.w
  · have hsw2 := hsw
    rw [decide_eq_true e, show K.cas x K.w false false (-1) = { K with l := false, q := false, h := (-1) } from if_pos e] at hsw2
    have HSW := Lib.hid hsw2; have HE := Lib.hid e
    clear hsw hsw2 hx e
    have hfin : ∀ w' X', Wf w0 w' base WB M1 (r ++ [blockP Q (.cells #[.bool K.l, .bool K.q, .int .i64 K.h] 81)]) j B { K with l := false, q := false, h := (-1) } X' → Behind w0 base WB M r j B K (.returned (.int .u8 (7 : Int))) w' := fun w' X' h => by
      unfold Behind
      rw [show fstepM M K = _ from by simp only [fstepM, HL.out]; rfl, show fstepK M K = _ from by simp only [fstepK, HL.out]; rfl, ← HX.out, if_pos HE.out, if_pos HE.out, ← HM1.out]
      exact ⟨rfl, X', h.dropB HJ.out⟩
    have HF := Lib.hid hfin
    clear hfin
    go_wp2_with (go_at_call 56; refine HSW.out.mono ?_; rintro e w5 ⟨rfl, X5, h5⟩; have H5 := Lib.hid h5; clear h5)
    (try simp only [to2])
    go_ret
    exact HF.out _ _ H5.out
  · have hsw2 := hsw
    rw [decide_eq_false e, show K.cas x K.w false false (-1) = { K with l := S1.bitB x 0, q := S1.bitB x 1, h := S1.headN x } from if_neg e] at hsw2
    have HSW := Lib.hid hsw2; have HE := Lib.hid e
    clear hsw hsw2 hx e
    have HU := Lib.hid (show (K.says x).l = S1.bitB x 0 ∧ (K.says x).h = S1.headN x from ⟨rfl, rfl⟩)
    have hsb : ∀ e w', SeekF w0 base WB M1 (r ++ [blockP Q (.cells #[.bool K.l, .bool K.q, .int .i64 K.h] 81)]) j B (K.says x) x e w' → Behind w0 base WB M r j B K e w' := fun e w' h => by
      obtain ⟨rfl, X', h⟩ := h
      unfold Behind
      rw [show fstepM M K = _ from by simp only [fstepM, HL.out]; rfl, show fstepK M K = _ from by simp only [fstepK, HL.out]; rfl, ← HX.out, if_neg HE.out, if_neg HE.out, ← HM1.out]
      rw [HLK.out] at h ⊢
      exact ⟨rfl, X', h.dropB HJ.out⟩
    have HSB := Lib.hid hsb
    clear hsb
    go_wp2_with (go_at_call 56; refine HSW.out.mono ?_; rintro e w5 ⟨rfl, X5, h5⟩; have H5 := Lib.hid h5; clear h5)
    have H6' := Lib.hid (H5.out.recast (K.says x) rfl)
    clear H5
    go_step3
    refine Or.inr ⟨rfl, ?_⟩
    show Code.wp _ _ _ _ _
    obtain ⟨lv, hlv⟩ : ∃ b, b = S1.bitB x 0 := ⟨_, rfl⟩
    obtain ⟨hv, hhv⟩ : ∃ b, b = S1.headN x := ⟨_, rfl⟩
    obtain ⟨n2, hn2⟩ : ∃ n, n = (S5.seekO (M1).lk (hdO x)).2 := ⟨_, rfl⟩
    obtain ⟨S2, hS2⟩ : ∃ S, S = (S5.seekO (M1).lk (hdO x)).1 := ⟨_, rfl⟩
    have hle := seekO_le (S := (M1).lk) (fun i => pg_le H6'.out.pg i) x
    rw [← hn2, ← hS2] at hle
    have hsk : Calls Tryz.prog 61 #[Pw X5.lB, .int .i64 hv] w5.drew fun e w' => e = .returned (.int .i64 ((n2 : Int) - 1)) ∧ ∃ X', Pg w0 w' base WB ((M1).link S2) ((r ++ [blockP Q (.cells #[.bool K.l, .bool K.q, .int .i64 K.h] 81)]).set j (freeP B (K.says x))) X' ∧ X'.lB = X5.lB := by
      rw [hn2, hS2, hhv]
      exact pg_seek (H6'.out.new (Below.refl _ _).drew).pg (num_head x)
    have HSK := Lib.hid hsk
    have HLV := Lib.hid hlv; have HHV := Lib.hid hhv; have HN2 := Lib.hid hn2; have HS2 := Lib.hid hS2; have HLE := Lib.hid hle
    have e2 := H6'.out.b2; have e4 := H6'.out.b4; have e3 := H6'.out.pg.c.2.2.1; have e5 := H6'.out.b5
    rw [HU.out.1, ← hlv] at e2
    rw [HU.out.2, ← hhv] at e4
    clear hlv hhv hn2 hS2 hle hsk
    have HX9 := Lib.hid (And.intro e3 e4)
    go_upto_region 29 with (fail)
    refine wp_region_held_drew (S := fun w' => w'.cell? ⟨WB, 3, none⟩ = some (Pw X5.lB) ∧ w'.cell? ⟨B, 4, none⟩ = some (.int .i64 hv)) (by kernel_rfl) ?_ (fun hHeld => ?_)
    · exact HX9.out
    refine wpAnyH_take (i := 0) (oi := ({ dst := some 96, op := Op.move (Operand.tmp 5), type := 159, pos := "wordfrees.go:106", after := #[], guard := none } : Oper)) (v := ?vsm1) rfl (by kernel_rfl) (by kernel_rfl) (by kernel_rfl) (fun _ _ _ h => h) (Or.inl ⟨by rfl, fun w hSw => ?hysm1⟩) (by assumption) ?rsm1
    case hysm1 => (try dsimp only at hSw); go_simp; (try with_reducible rfl)
    (try simp only [Act.put, List.setIfInBounds_toArray, List.set_cons_zero, List.set_cons_succ])
    refine wpAnyH_take (i := 1) (oi := ({ dst := some 97, op := Op.move (Operand.tmp 1), type := 25, pos := "wordfrees.go:106", after := #[], guard := none } : Oper)) (v := ?vsm2) rfl (by kernel_rfl) (by kernel_rfl) (by kernel_rfl) (fun _ _ _ h => h) (Or.inl ⟨by rfl, fun w hSw => ?hysm2⟩) (by assumption) ?rsm2
    case hysm2 => (try dsimp only at hSw); go_simp; (try with_reducible rfl)
    (try simp only [Act.put, List.setIfInBounds_toArray, List.set_cons_zero, List.set_cons_succ])
    refine wpAnyH_take (i := 2) (oi := ({ dst := some 98, op := Op.nilCheck (Operand.tmp 97), type := 0, pos := "wordfrees.go:106", after := #[{ on := 1, ground := Ground.data }], guard := none } : Oper)) (v := ?vsm3) rfl (by kernel_rfl) (by kernel_rfl) (by kernel_rfl) (fun _ _ _ h => h) (Or.inl ⟨by rfl, fun w hSw => ?hysm3⟩) (by assumption) ?rsm3
    case hysm3 => (try dsimp only at hSw); go_simp; (try with_reducible rfl)
    (try simp only [Act.put, List.setIfInBounds_toArray, List.set_cons_zero, List.set_cons_succ])
    refine wpAnyH_take (i := 3) (oi := ({ dst := some 99, op := Op.fieldAddr 45 (Operand.tmp 98) 3, type := 0, pos := "wordfrees.go:106", after := #[{ on := 2, ground := Ground.data }], guard := none } : Oper)) (v := ?vsm4) rfl (by kernel_rfl) (by kernel_rfl) (by kernel_rfl) (fun _ _ _ h => h) (Or.inl ⟨by rfl, fun w hSw => ?hysm4⟩) (by assumption) ?rsm4
    case hysm4 => (try dsimp only at hSw); go_simp; (try with_reducible rfl)
    (try simp only [Act.put, List.setIfInBounds_toArray, List.set_cons_zero, List.set_cons_succ])
    refine wpAnyH_take (i := 4) (oi := ({ dst := some 100, op := Op.load 40 (Operand.tmp 99), type := 40, pos := "wordfrees.go:106", after := #[{ on := 3, ground := Ground.data }], guard := none } : Oper)) (v := ?vsm5) rfl (by kernel_rfl) (by kernel_rfl) (by kernel_rfl) (fun _ _ _ h => h) (Or.inl ⟨by rfl, fun w hSw => ?hysm5⟩) (by assumption) ?rsm5
    case hysm5 => (try dsimp only at hSw); go_simp; (try with_reducible rfl)
    (try simp only [Act.put, List.setIfInBounds_toArray, List.set_cons_zero, List.set_cons_succ])
    refine wpAnyH_take (i := 5) (oi := ({ dst := some 101, op := Op.move (Operand.tmp 5), type := 159, pos := "wordfrees.go:106", after := #[], guard := none } : Oper)) (v := ?vsm6) rfl (by kernel_rfl) (by kernel_rfl) (by kernel_rfl) (fun _ _ _ h => h) (Or.inl ⟨by rfl, fun w hSw => ?hysm6⟩) (by assumption) ?rsm6
    case hysm6 => (try dsimp only at hSw); go_simp; (try with_reducible rfl)
    (try simp only [Act.put, List.setIfInBounds_toArray, List.set_cons_zero, List.set_cons_succ])
    refine wpAnyH_take (i := 6) (oi := ({ dst := some 102, op := Op.nilCheck (Operand.tmp 101), type := 0, pos := "wordfrees.go:106", after := #[{ on := 5, ground := Ground.data }], guard := none } : Oper)) (v := ?vsm7) rfl (by kernel_rfl) (by kernel_rfl) (by kernel_rfl) (fun _ _ _ h => h) (Or.inl ⟨by rfl, fun w hSw => ?hysm7⟩) (by assumption) ?rsm7
    case hysm7 => (try dsimp only at hSw); go_simp; (try with_reducible rfl)
    (try simp only [Act.put, List.setIfInBounds_toArray, List.set_cons_zero, List.set_cons_succ])
    refine wpAnyH_take (i := 7) (oi := ({ dst := some 103, op := Op.fieldAddr 83 (Operand.tmp 102) 0, type := 0, pos := "wordfrees.go:106", after := #[{ on := 6, ground := Ground.data }], guard := none } : Oper)) (v := ?vsm8) rfl (by kernel_rfl) (by kernel_rfl) (by kernel_rfl) (fun _ _ _ h => h) (Or.inl ⟨by rfl, fun w hSw => ?hysm8⟩) (by assumption) ?rsm8
    case hysm8 => (try dsimp only at hSw); go_simp; (try with_reducible rfl)
    (try simp only [Act.put, List.setIfInBounds_toArray, List.set_cons_zero, List.set_cons_succ])
    refine wpAnyH_take (i := 8) (oi := ({ dst := some 104, op := Op.fieldAddr 81 (Operand.tmp 103) 2, type := 0, pos := "wordfrees.go:106", after := #[{ on := 7, ground := Ground.data }], guard := none } : Oper)) (v := ?vsm9) rfl (by kernel_rfl) (by kernel_rfl) (by kernel_rfl) (fun _ _ _ h => h) (Or.inl ⟨by rfl, fun w hSw => ?hysm9⟩) (by assumption) ?rsm9
    case hysm9 => (try dsimp only at hSw); go_simp; (try with_reducible rfl)
    (try simp only [Act.put, List.setIfInBounds_toArray, List.set_cons_zero, List.set_cons_succ])
    refine wpAnyH_take (i := 9) (oi := ({ dst := some 105, op := Op.load 3 (Operand.tmp 104), type := 3, pos := "wordfrees.go:106", after := #[{ on := 8, ground := Ground.data }], guard := none } : Oper)) (v := ?vsm10) rfl (by kernel_rfl) (by kernel_rfl) (by kernel_rfl) (fun _ _ _ h => h) (Or.inl ⟨by rfl, fun w hSw => ?hysm10⟩) (by assumption) ?rsm10
    case hysm10 => (try dsimp only at hSw); go_simp; (try with_reducible rfl)
    (try simp only [Act.put, List.setIfInBounds_toArray, List.set_cons_zero, List.set_cons_succ])
    refine wpAnyH_ready (rs := [10]) (by kernel_rfl) (by simp) ?_
    refine AllReadyH.cons (o := ({ dst := some 106, op := Op.call { callee := Callee.value (Operand.func 61), args := #[Operand.tmp 100, Operand.tmp 105], argTypes := #[40, 3] }, type := 3, pos := "wordfrees.go:106", after := #[{ on := 4, ground := Ground.data }, { on := 9, ground := Ground.data }], guard := none } : Oper)) rfl (fun Kq hKq => ?_) AllReadyH.nil
    go_simp
    (refine HSK.out.mono ?_; rintro e w6 ⟨rfl, X6, h6g, hlb6⟩; have H6 := Lib.hid (show Wf w0 w6 base WB ((M1).link S2) (r ++ [blockP Q (.cells #[.bool K.l, .bool K.q, .int .i64 K.h] 81)]) j B (K.says x) X6 from ⟨h6g, H6'.out.hj⟩); have HLB := Lib.hid hlb6; clear h6g hlb6)
    refine hKq.out _ _ ?_ (fun hHeld => ?_)
    · (have q3 := H6.out.pg.c.2.2.1; have q4 := H6.out.b4; rw [HLB.out] at q3; refine ⟨q3, ?_⟩; rw [HHV.out, ← HU.out.2]; exact q4)
    clear hKq Kq
    (try simp only [Act.put, List.setIfInBounds_toArray, List.set_cons_zero, List.set_cons_succ])
    refine wpAnyH_take (i := 11) (oi := ({ dst := some 107, op := Op.nilCheck (Operand.tmp 96), type := 0, pos := "wordfrees.go:106", after := #[{ on := 0, ground := Ground.data }, { on := 0, ground := Ground.phase }, { on := 1, ground := Ground.phase }, { on := 2, ground := Ground.phase }, { on := 3, ground := Ground.phase }, { on := 4, ground := Ground.phase }, { on := 5, ground := Ground.phase }, { on := 6, ground := Ground.phase }, { on := 7, ground := Ground.phase }, { on := 8, ground := Ground.phase }, { on := 9, ground := Ground.phase }, { on := 10, ground := Ground.phase }], guard := none } : Oper)) (v := ?vsm11) rfl (by kernel_rfl) (by kernel_rfl) (by kernel_rfl) (fun _ _ _ h => h) (Or.inl ⟨by rfl, fun w hSw => ?hysm11⟩) (by assumption) ?rsm11
    case hysm11 => (try dsimp only at hSw); go_simp; (try with_reducible rfl)
    (try simp only [Act.put, List.setIfInBounds_toArray, List.set_cons_zero, List.set_cons_succ])
    refine wpAnyH_take (i := 12) (oi := ({ dst := some 108, op := Op.fieldAddr 83 (Operand.tmp 107) 1, type := 0, pos := "wordfrees.go:106", after := #[{ on := 11, ground := Ground.data }, { on := 0, ground := Ground.phase }, { on := 1, ground := Ground.phase }, { on := 2, ground := Ground.phase }, { on := 3, ground := Ground.phase }, { on := 4, ground := Ground.phase }, { on := 5, ground := Ground.phase }, { on := 6, ground := Ground.phase }, { on := 7, ground := Ground.phase }, { on := 8, ground := Ground.phase }, { on := 9, ground := Ground.phase }, { on := 10, ground := Ground.phase }], guard := none } : Oper)) (v := ?vsm12) rfl (by kernel_rfl) (by kernel_rfl) (by kernel_rfl) (fun _ _ _ h => h) (Or.inl ⟨by rfl, fun w hSw => ?hysm12⟩) (by assumption) ?rsm12
    case hysm12 => (try dsimp only at hSw); go_simp; (try with_reducible rfl)
    (try simp only [Act.put, List.setIfInBounds_toArray, List.set_cons_zero, List.set_cons_succ])
    refine wpAnyH_ready (rs := [13]) (by kernel_rfl) (by simp) ?_
    refine AllReadyH.cons (o := ({ dst := none, op := Op.store 3 (Operand.tmp 108) (Operand.tmp 106), type := 0, pos := "wordfrees.go:106", after := #[{ on := 12, ground := Ground.data }, { on := 10, ground := Ground.data }, { on := 10, ground := Ground.chain }, { on := 0, ground := Ground.phase }, { on := 1, ground := Ground.phase }, { on := 2, ground := Ground.phase }, { on := 3, ground := Ground.phase }, { on := 4, ground := Ground.phase }, { on := 5, ground := Ground.phase }, { on := 6, ground := Ground.phase }, { on := 7, ground := Ground.phase }, { on := 8, ground := Ground.phase }, { on := 9, ground := Ground.phase }, { on := 10, ground := Ground.phase }], guard := none } : Oper)) rfl (fun Kq hKq => ?_) AllReadyH.nil
    (have y5 := H6.out.b5; have f5 := H6.out.fz 5; go_simp; have h7 := H6.out.tail ((n2 : Int) - 1); have H7 := Lib.hid h7; clear y5 f5 h7; generalize w6.setCell ⟨B, 5, none⟩ (.int .i64 ((n2 : Int) - 1)) = w7 at *)
    refine hKq.out _ _ ?_ (fun hHeld => ?_)
    · (have q3 := H7.out.pg.c.2.2.1; have q4 := H7.out.b4; rw [HLB.out] at q3; refine ⟨q3, ?_⟩; rw [HHV.out, ← HU.out.2]; exact q4)
    clear hKq Kq
    (try simp only [Act.put, List.setIfInBounds_toArray, List.set_cons_zero, List.set_cons_succ])
    refine wpAnyH_done (by kernel_rfl) ?_ _
    clear hHeld e2 e3 e4 e5 HSK
    have e5 := H7.out.b5; have e2 := H7.out.b2; have e4 := H7.out.b4; have e3 := H7.out.pg.c.2.2.1
    replace e2 : w7.cell? ⟨B, 2, none⟩ = some (.bool lv) := by rw [HLV.out, ← HU.out.1]; exact e2
    replace e4 : w7.cell? ⟨B, 4, none⟩ = some (.int .i64 hv) := by rw [HHV.out, ← HU.out.2]; exact e4
    have hleaf : ∀ (W : World) (S : S5.Lk) (t : Int) (n : Nat), (S, t, n) = seekL (M1).lk x → (∃ X', Wf w0 W base WB ((M1).link S) (r ++ [blockP Q (.cells #[.bool K.l, .bool K.q, .int .i64 K.h] 81)]) j B { (K.says x : Fr) with t := t } X') → Behind w0 base WB M r j B K (.returned (.int .u8 (n : Int))) W := fun W S t n hs ⟨X', hx⟩ => by
      refine HSB.out _ _ ⟨?_, X', ?_⟩
      · rw [← hs]
      · rw [← hs]; exact hx
    have HLF := Lib.hid hleaf
    clear hleaf
    cases n2 with
    | zero =>
      have e6 : w7.cell? ⟨B, 5, none⟩ = some (.int .i64 (-1)) := e5
      have hq : (S2, (-1 : Int), 0) = seekL (M1).lk x := by unfold seekL; rw [if_pos HN2.out.symm, ← HS2.out]
      have HFIN := Lib.hid (HLF.out w7 _ _ _ hq ⟨X6, H7.out⟩)
      clear e5 hq HLF
      go_wp2_with fail
      (try simp only [Exit.noGoto])
      go_ret
      exact HFIN.out
    | succ m =>
      have em : ((m + 1 : Nat) : Int) - 1 = (m : Int) := by omega
      have hm := HLE.out.1
      rw [em] at e5
      have hne : ((m : Int) == -1) = false := by rw [beq_eq_false_iff_ne]; omega
      have hn0 : ¬ (S5.seekO (M1).lk (hdO x)).2 = 0 := by rw [← HN2.out]; omega
      have htl : (((S5.seekO (M1).lk (hdO x)).2 : Int) - 1) = (m : Int) := by rw [← HN2.out]; omega
      have hpr : (S5.seekO (M1).lk (hdO x)).2 - 1 = m := by rw [← HN2.out]; omega
      have h8 := H7.out
      rw [em] at h8
      have H8 := Lib.hid h8; have HM := Lib.hid (show m < 64 by omega); have HEQ := Lib.hid (And.intro hn0 (And.intro htl hpr))
      clear em hm hn0 htl hpr h8 H7
      cases lv with
      | true =>
        have hq : (S2, (m : Int), 4) = seekL (M1).lk x := by unfold seekL; rw [if_neg HEQ.out.1, if_pos HLV.out.symm, HEQ.out.2.1, ← HS2.out]
        have HFIN := Lib.hid (HLF.out w7 _ _ _ hq ⟨X6, H8.out⟩)
        clear hq HLF
        go_wp2_with fail
        (try simp only [Exit.noGoto])
        go_ret
        exact HFIN.out
      | false =>
        obtain ⟨y0, y1, y2, hat0⟩ : ∃ y0 y1 y2 : Int, (Calls Tryz.prog 62 #[Pw X6.lB, .int .i64 (m : Int)] w7.drew fun e w' => e = .returned (.agg #[.int .i64 y0, .int .i64 y1, .int .i64 y2]) ∧ Below w7.drew.heap.size w7.drew w') ∧ y1 = (S2 (m * 3 + 1) : Int) - 1 := ⟨_, _, _, pg_at (H8.out.new (Below.refl _ _).drew).pg HM.out, rfl⟩
        have HAT := Lib.hid hat0.1; have HY1 := Lib.hid hat0.2
        have hfd : ∀ w : World, (Instr.field 165 (.agg #[.int .i64 y0, .int .i64 y1, .int .i64 y2]) 1).run Tryz.prog w = .ok (.int .i64 y1) w := fun w => field_prev _ _ _ w
        clear hat0
        by_cases hp : S2 (m * 3 + 1) = 0
        · have hy : y1 = -1 := by rw [HY1.out, hp]; rfl
          subst hy
          have hq : (S2, (m : Int), 5) = seekL (M1).lk x := by unfold seekL; rw [if_neg HEQ.out.1, if_neg (by rw [← HLV.out]; decide), HEQ.out.2.2, HEQ.out.2.1, ← HS2.out, if_pos hp]
          have HFIN := Lib.hid (fun W (b : Below w7.heap.size w7 W) => HLF.out W _ _ _ hq ⟨X6, H8.out.new b⟩)
          clear hq HLF hp
          go_upto_region 34 with (fail)
          go_still_tail 8, (by kernel_rfl)
          change wpList _ _ _ _ _ w7.drew
          go_wp2_with (go_at_call 62; refine HAT.out.mono ?_; rintro e w8 ⟨rfl, hb8⟩; have HB8 := Lib.hid hb8; clear hb8)
          (try simp only [Exit.noGoto])
          go_ret
          exact HFIN.out _ (Below.trans (Below.refl _ _).drew HB8.out)
        · have hy : (y1 == -1) = false := by rw [HY1.out, beq_eq_false_iff_ne]; omega
          have hq : ((S5.cutO S2 (hdO x) (some m)).1, (m : Int), 6) = seekL (M1).lk x := by unfold seekL; rw [if_neg HEQ.out.1, if_neg (by rw [← HLV.out]; decide), HEQ.out.2.2, HEQ.out.2.1, ← HS2.out, if_neg hp]
          have HFIN := Lib.hid (fun W => HLF.out W _ _ _ hq)
          clear hq HLF hp
          go_upto_region 34 with (fail)
          go_still_tail 8, (by kernel_rfl)
          change wpList _ _ _ _ _ w7.drew
          go_upto_region 36 with (go_at_call 62; refine HAT.out.mono ?_; rintro e w8 ⟨rfl, hb8⟩; have H9 := Lib.hid (H8.out.new ((Below.refl _ _).drew.trans hb8)); clear hb8)
          clear e2 e3 e4 e5
          have e5 := H9.out.b5; have e4 := H9.out.b4; have e3 := H9.out.pg.c.2.2.1
          replace e4 : w8.cell? ⟨B, 4, none⟩ = some (.int .i64 hv) := by rw [HHV.out, ← HU.out.2]; exact e4
          have hct : Calls Tryz.prog 63 #[Pw X6.lB, .int .i64 hv, .int .i64 (m : Int)] w8.drew fun e w' => (∃ v, e = .returned (.int .i64 v)) ∧ ∃ X', Pg w0 w' base WB (((M1).link S2).link (S5.cutO S2 (hdO x) (some m)).1) ((r ++ [blockP Q (.cells #[.bool K.l, .bool K.q, .int .i64 K.h] 81)]).set j (freeP B { (K.says x : Fr) with t := (m : Int) })) X' ∧ X'.lB = X6.lB := by
            rw [HHV.out]
            exact (pg_cut (H9.out.new (Below.refl _ _).drew).pg (num_head x) (show S5.Num (m : Int) (some m) from ⟨rfl, HM.out⟩)).mono (fun e w' h => ⟨⟨_, h.1⟩, h.2⟩)
          have HCT := Lib.hid hct
          clear hct
          go_still_tail 13, (by kernel_rfl)
          change wpList _ _ _ _ _ w8.drew
          go_wp2_with (go_at_call 63; refine HCT.out.mono ?_; rintro e w9 ⟨⟨cv, rfl⟩, X9, h9, hlb9⟩; have H10 := Lib.hid h9; clear h9 hlb9)
          (try simp only [Exit.noGoto])
          go_ret
          exact HFIN.out _ ⟨X9, H10.out, H9.out.hj⟩
end
end Go.Proofs.YthafnphpcdbnlaaGreat.S14
namespace Go.Proofs.YthafnphpcdbnlaaGreat.S14
open Go.Proofs.YthafnphpcdbnlaaGreat Go.Proofs.YthafnphpcdbnlaaGreat.S11 Go.Proofs.YthafnphpcdbnlaaGreat.S12 Go.Proofs.YthafnphpcdbnlaaGreat.S13
open Go.RowKit

section
variable {w0 w w' : World} {base WB : Nat} {M : Sd} {r : List Part} {j B : Nat} {K : Fr} {X : Wm}
set_option maxRecDepth 100000 in
set_option maxHeartbeats 8000000 in
theorem beh6 (h : Wf w0 w base WB M r j B K X) (ok : FrOk M K) (hl : K.ln = 6) : Calls Tryz.prog 46 #[Pw B, Pw WB] w (Behind w0 base WB M r j B K) := by
  have hj := h.hj
  have c0 := h.b0
  rw [hl] at c0
  have c2 := h.b2; have c3 := h.b3; have c4 := h.b4
  have hA := h.pushB (.cells #[.bool K.l, .bool K.q, .int .i64 K.h] 81)
  obtain ⟨Q, hQ⟩ : ∃ Q, Q = w.heap.size := ⟨_, rfl⟩
  rw [← hQ] at hA
  have HA := Lib.hid hA; have HJ := Lib.hid hj; have HQ := Lib.hid hQ; have HOK := Lib.hid ok; have HL := Lib.hid hl
  clear h hj hA hQ ok hl
  go_enter Tryz.func46, Tryz.ntmps46
  go_wp2_with fail
  refine wp_scope_two rfl rfl ?_
  go_upto_region 3 with (fail)
  rw [← HQ.out]
  generalize w.alloc (.cells #[.bool K.l, .bool K.q, .int .i64 K.h] 81) = w1 at *
  clear c0 c2 c3 c4
  have c0 := HA.out.b0
  rw [HL.out] at c0
  have hput : ∀ W, Calls Tryz.prog 58 #[.agg #[.bool false, .bool true, .int .i64 (-1)]] W fun e w' => e = .returned (.int .u64 2) ∧ Below W.heap.size W w' := fun W => by
    have := S1.putU_any false true (-1) (by unfold S1.isHead; omega) W
    rwa [show S1.putU false true (-1) = 2 by decide] at this
  have HPT := Lib.hid hput
  have hnd : ∀ W, Wf w0 W base WB M (r ++ [blockP Q (.cells #[.bool K.l, .bool K.q, .int .i64 K.h] 81)]) j B K X → Calls Tryz.prog 57 #[Pw X.cB, .int .u32 (K.a : Int), .int .u64 18446744073709551613] W fun e w' => (∃ v, e = .returned v) ∧ ∃ X', Wf w0 w' base WB (M.acc 6 K.a (S2.look M.L K.a &&& 18446744073709551613)) (r ++ [blockP Q (.cells #[.bool K.l, .bool K.q, .int .i64 K.h] 81)]) j B K X' ∧ X'.cB = X.cB := fun W hW => by
    have h1 := pg_and hW.pg HOK.out.a (v := 18446744073709551613) (by omega) HOK.out.n
    rw [show ((18446744073709551613 : Nat) : Int) = 18446744073709551613 from rfl] at h1
    exact h1.mono (fun e w' h => ⟨⟨_, h.1⟩, by obtain ⟨_, X', h2, h3⟩ := h; exact ⟨X', ⟨h2, hW.hj⟩, h3⟩⟩)
  have HND := Lib.hid hnd
  have hx0 := HA.out.cells
  have HX0 := Lib.hid hx0
  clear hput hnd
  go_upto_region 24 with (fail)
  clear c0
  refine wp_region_held_drew (S := fun w' => w'.cell? ⟨WB, 0, none⟩ = some (Pw X.cB) ∧ w'.cell? ⟨B, 1, none⟩ = some (.int .u32 (K.a : Int))) (by kernel_rfl) ?_ (fun hHeld => ?_)
  · exact HX0.out
  refine wpAnyH_take (i := 0) (oi := ({ dst := some 82, op := Op.move (Operand.tmp 1), type := 25, pos := "wordfrees.go:94", after := #[], guard := none } : Oper)) (v := ?vnm1) rfl (by kernel_rfl) (by kernel_rfl) (by kernel_rfl) (fun _ _ _ h => h) (Or.inl ⟨by rfl, fun w hSw => ?hynm1⟩) (by assumption) ?rnm1
  case hynm1 => (try dsimp only at hSw); go_simp; (try with_reducible rfl)
  (try simp only [Act.put, List.setIfInBounds_toArray, List.set_cons_zero, List.set_cons_succ])
  refine wpAnyH_take (i := 1) (oi := ({ dst := some 83, op := Op.nilCheck (Operand.tmp 82), type := 0, pos := "wordfrees.go:94", after := #[{ on := 0, ground := Ground.data }], guard := none } : Oper)) (v := ?vnm2) rfl (by kernel_rfl) (by kernel_rfl) (by kernel_rfl) (fun _ _ _ h => h) (Or.inl ⟨by rfl, fun w hSw => ?hynm2⟩) (by assumption) ?rnm2
  case hynm2 => (try dsimp only at hSw); go_simp; (try with_reducible rfl)
  (try simp only [Act.put, List.setIfInBounds_toArray, List.set_cons_zero, List.set_cons_succ])
  refine wpAnyH_take (i := 2) (oi := ({ dst := some 84, op := Op.fieldAddr 45 (Operand.tmp 83) 0, type := 0, pos := "wordfrees.go:94", after := #[{ on := 1, ground := Ground.data }], guard := none } : Oper)) (v := ?vnm3) rfl (by kernel_rfl) (by kernel_rfl) (by kernel_rfl) (fun _ _ _ h => h) (Or.inl ⟨by rfl, fun w hSw => ?hynm3⟩) (by assumption) ?rnm3
  case hynm3 => (try dsimp only at hSw); go_simp; (try with_reducible rfl)
  (try simp only [Act.put, List.setIfInBounds_toArray, List.set_cons_zero, List.set_cons_succ])
  refine wpAnyH_take (i := 3) (oi := ({ dst := some 85, op := Op.load 37 (Operand.tmp 84), type := 37, pos := "wordfrees.go:94", after := #[{ on := 2, ground := Ground.data }], guard := none } : Oper)) (v := ?vnm4) rfl (by kernel_rfl) (by kernel_rfl) (by kernel_rfl) (fun _ _ _ h => h) (Or.inl ⟨by rfl, fun w hSw => ?hynm4⟩) (by assumption) ?rnm4
  case hynm4 => (try dsimp only at hSw); go_simp; (try with_reducible rfl)
  (try simp only [Act.put, List.setIfInBounds_toArray, List.set_cons_zero, List.set_cons_succ])
  refine wpAnyH_take (i := 4) (oi := ({ dst := some 86, op := Op.move (Operand.tmp 0), type := 33, pos := "wordfrees.go:94", after := #[], guard := none } : Oper)) (v := ?vnm5) rfl (by kernel_rfl) (by kernel_rfl) (by kernel_rfl) (fun _ _ _ h => h) (Or.inl ⟨by rfl, fun w hSw => ?hynm5⟩) (by assumption) ?rnm5
  case hynm5 => (try dsimp only at hSw); go_simp; (try with_reducible rfl)
  (try simp only [Act.put, List.setIfInBounds_toArray, List.set_cons_zero, List.set_cons_succ])
  refine wpAnyH_take (i := 5) (oi := ({ dst := some 87, op := Op.nilCheck (Operand.tmp 86), type := 0, pos := "wordfrees.go:94", after := #[{ on := 4, ground := Ground.data }], guard := none } : Oper)) (v := ?vnm6) rfl (by kernel_rfl) (by kernel_rfl) (by kernel_rfl) (fun _ _ _ h => h) (Or.inl ⟨by rfl, fun w hSw => ?hynm6⟩) (by assumption) ?rnm6
  case hynm6 => (try dsimp only at hSw); go_simp; (try with_reducible rfl)
  (try simp only [Act.put, List.setIfInBounds_toArray, List.set_cons_zero, List.set_cons_succ])
  refine wpAnyH_take (i := 6) (oi := ({ dst := some 88, op := Op.fieldAddr 85 (Operand.tmp 87) 1, type := 0, pos := "wordfrees.go:94", after := #[{ on := 5, ground := Ground.data }], guard := none } : Oper)) (v := ?vnm7) rfl (by kernel_rfl) (by kernel_rfl) (by kernel_rfl) (fun _ _ _ h => h) (Or.inl ⟨by rfl, fun w hSw => ?hynm7⟩) (by assumption) ?rnm7
  case hynm7 => (try dsimp only at hSw); go_simp; (try with_reducible rfl)
  (try simp only [Act.put, List.setIfInBounds_toArray, List.set_cons_zero, List.set_cons_succ])
  refine wpAnyH_take (i := 7) (oi := ({ dst := some 89, op := Op.load 30 (Operand.tmp 88), type := 30, pos := "wordfrees.go:94", after := #[{ on := 6, ground := Ground.data }], guard := none } : Oper)) (v := ?vnm8) rfl (by kernel_rfl) (by kernel_rfl) (by kernel_rfl) (fun _ _ _ h => h) (Or.inl ⟨by rfl, fun w hSw => ?hynm8⟩) (by assumption) ?rnm8
  case hynm8 => (try dsimp only at hSw); go_simp; (try with_reducible rfl)
  (try simp only [Act.put, List.setIfInBounds_toArray, List.set_cons_zero, List.set_cons_succ])
  refine wpAnyH_take (i := 8) (oi := ({ dst := some 90, op := Op.build 81 #[(1, Operand.const (Value.bool true)), (2, Operand.const (Value.int IntKind.i64 (-1)))], type := 81, pos := "wordfrees.go:94", after := #[], guard := none } : Oper)) (v := ?vnm9) rfl (by kernel_rfl) (by kernel_rfl) (by kernel_rfl) (fun _ _ _ h => h) (Or.inl ⟨by rfl, fun w hSw => ?hynm9⟩) (by assumption) ?rnm9
  case hynm9 => (try dsimp only at hSw); go_simp; (try with_reducible rfl)
  (try simp only [Act.put, List.setIfInBounds_toArray, List.set_cons_zero, List.set_cons_succ])
  refine wpAnyH_ready (rs := [9]) (by kernel_rfl) (by simp) ?_
  refine AllReadyH.cons (o := ({ dst := some 91, op := Op.call { callee := Callee.value (Operand.func 58), args := #[Operand.tmp 90], argTypes := #[81] }, type := 36, pos := "wordfrees.go:94", after := #[{ on := 8, ground := Ground.data }], guard := none } : Oper)) rfl (fun Kq hKq => ?_) AllReadyH.nil
  go_simp
  (refine (HPT.out _).mono ?_; rintro e w4 ⟨rfl, hb4⟩; have H4 := Lib.hid ((HA.out.new (Below.refl _ _).drew).new hb4); clear hb4)
  refine hKq.out _ _ ?_ (fun hHeld => ?_)
  · exact H4.out.cells
  clear hKq Kq
  (try simp only [Act.put, List.setIfInBounds_toArray, List.set_cons_zero, List.set_cons_succ])
  refine wpAnyH_take (i := 10) (oi := ({ dst := some 92, op := Op.unOp UnOp.xor 36 (Operand.tmp 91), type := 36, pos := "wordfrees.go:94", after := #[{ on := 9, ground := Ground.data }], guard := none } : Oper)) (v := ?vnm10) rfl (by kernel_rfl) (by kernel_rfl) (by kernel_rfl) (fun _ _ _ h => h) (Or.inl ⟨by rfl, fun w hSw => ?hynm10⟩) (by assumption) ?rnm10
  case hynm10 => (try dsimp only at hSw); go_simp; (try with_reducible rfl)
  (try simp only [Act.put, List.setIfInBounds_toArray, List.set_cons_zero, List.set_cons_succ])
  refine wpAnyH_ready (rs := [11]) (by kernel_rfl) (by simp) ?_
  refine AllReadyH.cons (o := ({ dst := some 93, op := Op.call { callee := Callee.value (Operand.func 57), args := #[Operand.tmp 85, Operand.tmp 89, Operand.tmp 92], argTypes := #[37, 30, 36] }, type := 36, pos := "wordfrees.go:94", after := #[{ on := 3, ground := Ground.data }, { on := 7, ground := Ground.data }, { on := 10, ground := Ground.data }, { on := 9, ground := Ground.chain }], guard := none } : Oper)) rfl (fun Kq hKq => ?_) AllReadyH.nil
  go_simp
  (refine (HND.out w4 H4.out).mono ?_; rintro e w5 ⟨⟨av, rfl⟩, X5, h5, hcb5⟩; have H5 := Lib.hid h5; have HCB5 := Lib.hid hcb5; clear h5 hcb5)
  refine hKq.out _ _ ?_ (fun hHeld => ?_)
  · (have q := H5.out.cells; rw [HCB5.out] at q; exact q)
  clear hKq Kq
  (try simp only [Act.put, List.setIfInBounds_toArray, List.set_cons_zero, List.set_cons_succ])
  refine wpAnyH_done (by kernel_rfl) ?_ _
  have hfin : Behind w0 base WB M r j B K (.returned (.int .u8 (7 : Int))) w5 := by
    unfold Behind
    rw [show fstepM M K = _ from by simp only [fstepM, HL.out]; rfl, show fstepK M K = _ from by simp only [fstepK, HL.out]; rfl]
    exact ⟨rfl, X5, H5.out.dropB HJ.out⟩
  have HF := Lib.hid hfin
  clear hfin hHeld hx0
  go_wp2_with fail
  (try simp only [to2])
  go_ret
  exact HF.out
end
end Go.Proofs.YthafnphpcdbnlaaGreat.S14
namespace Go.Proofs.YthafnphpcdbnlaaGreat.S14
open Go.Proofs.YthafnphpcdbnlaaGreat Go.Proofs.YthafnphpcdbnlaaGreat.S11 Go.Proofs.YthafnphpcdbnlaaGreat.S12 Go.Proofs.YthafnphpcdbnlaaGreat.S13
open Go.RowKit

section
variable {w0 w w' : World} {base WB : Nat} {M : Sd} {r : List Part} {j B : Nat} {K : Fr} {X : Wm}
set_option maxRecDepth 100000 in
set_option maxHeartbeats 8000000 in
theorem beh7 (h : Wf w0 w base WB M r j B K X) (ok : FrOk M K) (hl : K.ln = 7) : Calls Tryz.prog 46 #[Pw B, Pw WB] w (Behind w0 base WB M r j B K) := by
  have hj := h.hj
  have c0 := h.b0
  rw [hl] at c0
  have c2 := h.b2; have c3 := h.b3; have c4 := h.b4
  have hA := h.pushB (.cells #[.bool K.l, .bool K.q, .int .i64 K.h] 81)
  obtain ⟨Q, hQ⟩ : ∃ Q, Q = w.heap.size := ⟨_, rfl⟩
  rw [← hQ] at hA
  have HA := Lib.hid hA; have HJ := Lib.hid hj; have HQ := Lib.hid hQ; have HOK := Lib.hid ok; have HL := Lib.hid hl
  clear h hj hA hQ ok hl
  go_enter Tryz.func46, Tryz.ntmps46
  go_wp2_with fail
  refine wp_scope_two rfl rfl ?_
  go_upto_region 3 with (fail)
  rw [← HQ.out]
  generalize w.alloc (.cells #[.bool K.l, .bool K.q, .int .i64 K.h] 81) = w1 at *
  clear c0 c2 c3 c4
  have c0 := HA.out.b0
  rw [HL.out] at c0
  obtain ⟨t0, t1⟩ := HOK.out.t (by rw [HL.out]; omega)
  obtain ⟨tn, htn⟩ := Int.eq_ofNat_of_zero_le t0
  have htl : tn < 64 := by omega
  have HWD := Lib.hid (fun W => word_any tn htl W)
  have hun : ∀ W, Wf w0 W base WB M (r ++ [blockP Q (.cells #[.bool K.l, .bool K.q, .int .i64 K.h] 81)]) j B K X → Calls Tryz.prog 59 #[Pw X.pB, .int .i64 ((2 * tn + 1 : Nat) : Int)] W fun e w' => e = .returned (.tuple #[]) ∧ ∃ X', Wf w0 w' base WB (M.unpark (2 * tn + 1)) (r ++ [blockP Q (.cells #[.bool K.l, .bool K.q, .int .i64 K.h] 81)]) j B K X' ∧ X'.pB = X.pB := fun W hW =>
    (hW.pg.unpark HOK.out.pn (by omega)).mono (fun e w' h => ⟨h.1, by obtain ⟨_, X', h2, h3⟩ := h; exact ⟨X', ⟨h2, hW.hj⟩, h3⟩⟩)
  have HUN := Lib.hid hun
  have hx2 := HA.out.pg.c.2.1; have hx5 := HA.out.b5
  rw [htn] at hx5
  have HX0 := Lib.hid (And.intro hx2 hx5)
  have HTN := Lib.hid htn
  clear hun t0 t1 htn htl hx2 hx5
  go_upto_region 4 with (fail)
  clear c0
  refine wp_region_held_drew (S := fun w' => w'.cell? ⟨WB, 2, none⟩ = some (Pw X.pB) ∧ w'.cell? ⟨B, 5, none⟩ = some (.int .i64 (tn : Int))) (by kernel_rfl) ?_ (fun hHeld => ?_)
  · exact HX0.out
  refine wpAnyH_take (i := 0) (oi := ({ dst := some 18, op := Op.move (Operand.tmp 1), type := 25, pos := "wordfrees.go:97", after := #[], guard := none } : Oper)) (v := ?vum1) rfl (by kernel_rfl) (by kernel_rfl) (by kernel_rfl) (fun _ _ _ h => h) (Or.inl ⟨by rfl, fun w hSw => ?hyum1⟩) (by assumption) ?rum1
  case hyum1 => (try dsimp only at hSw); go_simp; (try with_reducible rfl)
  (try simp only [Act.put, List.setIfInBounds_toArray, List.set_cons_zero, List.set_cons_succ])
  refine wpAnyH_take (i := 1) (oi := ({ dst := some 19, op := Op.nilCheck (Operand.tmp 18), type := 0, pos := "wordfrees.go:97", after := #[{ on := 0, ground := Ground.data }], guard := none } : Oper)) (v := ?vum2) rfl (by kernel_rfl) (by kernel_rfl) (by kernel_rfl) (fun _ _ _ h => h) (Or.inl ⟨by rfl, fun w hSw => ?hyum2⟩) (by assumption) ?rum2
  case hyum2 => (try dsimp only at hSw); go_simp; (try with_reducible rfl)
  (try simp only [Act.put, List.setIfInBounds_toArray, List.set_cons_zero, List.set_cons_succ])
  refine wpAnyH_take (i := 2) (oi := ({ dst := some 20, op := Op.fieldAddr 45 (Operand.tmp 19) 2, type := 0, pos := "wordfrees.go:97", after := #[{ on := 1, ground := Ground.data }], guard := none } : Oper)) (v := ?vum3) rfl (by kernel_rfl) (by kernel_rfl) (by kernel_rfl) (fun _ _ _ h => h) (Or.inl ⟨by rfl, fun w hSw => ?hyum3⟩) (by assumption) ?rum3
  case hyum3 => (try dsimp only at hSw); go_simp; (try with_reducible rfl)
  (try simp only [Act.put, List.setIfInBounds_toArray, List.set_cons_zero, List.set_cons_succ])
  refine wpAnyH_take (i := 3) (oi := ({ dst := some 21, op := Op.load 39 (Operand.tmp 20), type := 39, pos := "wordfrees.go:97", after := #[{ on := 2, ground := Ground.data }], guard := none } : Oper)) (v := ?vum4) rfl (by kernel_rfl) (by kernel_rfl) (by kernel_rfl) (fun _ _ _ h => h) (Or.inl ⟨by rfl, fun w hSw => ?hyum4⟩) (by assumption) ?rum4
  case hyum4 => (try dsimp only at hSw); go_simp; (try with_reducible rfl)
  (try simp only [Act.put, List.setIfInBounds_toArray, List.set_cons_zero, List.set_cons_succ])
  refine wpAnyH_take (i := 4) (oi := ({ dst := some 22, op := Op.move (Operand.tmp 5), type := 159, pos := "wordfrees.go:97", after := #[], guard := none } : Oper)) (v := ?vum5) rfl (by kernel_rfl) (by kernel_rfl) (by kernel_rfl) (fun _ _ _ h => h) (Or.inl ⟨by rfl, fun w hSw => ?hyum5⟩) (by assumption) ?rum5
  case hyum5 => (try dsimp only at hSw); go_simp; (try with_reducible rfl)
  (try simp only [Act.put, List.setIfInBounds_toArray, List.set_cons_zero, List.set_cons_succ])
  refine wpAnyH_take (i := 5) (oi := ({ dst := some 23, op := Op.nilCheck (Operand.tmp 22), type := 0, pos := "wordfrees.go:97", after := #[{ on := 4, ground := Ground.data }], guard := none } : Oper)) (v := ?vum6) rfl (by kernel_rfl) (by kernel_rfl) (by kernel_rfl) (fun _ _ _ h => h) (Or.inl ⟨by rfl, fun w hSw => ?hyum6⟩) (by assumption) ?rum6
  case hyum6 => (try dsimp only at hSw); go_simp; (try with_reducible rfl)
  (try simp only [Act.put, List.setIfInBounds_toArray, List.set_cons_zero, List.set_cons_succ])
  refine wpAnyH_take (i := 6) (oi := ({ dst := some 24, op := Op.fieldAddr 83 (Operand.tmp 23) 1, type := 0, pos := "wordfrees.go:97", after := #[{ on := 5, ground := Ground.data }], guard := none } : Oper)) (v := ?vum7) rfl (by kernel_rfl) (by kernel_rfl) (by kernel_rfl) (fun _ _ _ h => h) (Or.inl ⟨by rfl, fun w hSw => ?hyum7⟩) (by assumption) ?rum7
  case hyum7 => (try dsimp only at hSw); go_simp; (try with_reducible rfl)
  (try simp only [Act.put, List.setIfInBounds_toArray, List.set_cons_zero, List.set_cons_succ])
  refine wpAnyH_take (i := 7) (oi := ({ dst := some 25, op := Op.load 3 (Operand.tmp 24), type := 3, pos := "wordfrees.go:97", after := #[{ on := 6, ground := Ground.data }], guard := none } : Oper)) (v := ?vum8) rfl (by kernel_rfl) (by kernel_rfl) (by kernel_rfl) (fun _ _ _ h => h) (Or.inl ⟨by rfl, fun w hSw => ?hyum8⟩) (by assumption) ?rum8
  case hyum8 => (try dsimp only at hSw); go_simp; (try with_reducible rfl)
  (try simp only [Act.put, List.setIfInBounds_toArray, List.set_cons_zero, List.set_cons_succ])
  refine wpAnyH_ready (rs := [8]) (by kernel_rfl) (by simp) ?_
  refine AllReadyH.cons (o := ({ dst := some 26, op := Op.call { callee := Callee.value (Operand.func 60), args := #[Operand.tmp 25], argTypes := #[3] }, type := 3, pos := "wordfrees.go:97", after := #[{ on := 7, ground := Ground.data }], guard := none } : Oper)) rfl (fun Kq hKq => ?_) AllReadyH.nil
  go_simp
  (refine (HWD.out _).mono ?_; rintro e w4 ⟨rfl, rfl⟩)
  refine hKq.out _ _ ?_ (fun hHeld => ?_)
  · exact HX0.out
  clear hKq Kq
  (try simp only [Act.put, List.setIfInBounds_toArray, List.set_cons_zero, List.set_cons_succ])
  refine wpAnyH_ready (rs := [9]) (by kernel_rfl) (by simp) ?_
  refine AllReadyH.cons (o := ({ dst := some 27, op := Op.call { callee := Callee.value (Operand.func 59), args := #[Operand.tmp 21, Operand.tmp 26], argTypes := #[39, 3] }, type := 0, pos := "wordfrees.go:97", after := #[{ on := 3, ground := Ground.data }, { on := 8, ground := Ground.data }, { on := 8, ground := Ground.chain }], guard := none } : Oper)) rfl (fun Kq hKq => ?_) AllReadyH.nil
  go_simp
  (refine (HUN.out _ (HA.out.new (Below.refl _ _).drew)).mono ?_; rintro e w5 ⟨rfl, X5, h5, hpb5⟩; have H5 := Lib.hid h5; have HPB5 := Lib.hid hpb5; clear h5 hpb5)
  refine hKq.out _ _ ?_ (fun hHeld => ?_)
  · (have q2 := H5.out.pg.c.2.1; have q5 := H5.out.b5; rw [HPB5.out] at q2; rw [HTN.out] at q5; exact ⟨q2, q5⟩)
  clear hKq Kq
  (try simp only [Act.put, List.setIfInBounds_toArray, List.set_cons_zero, List.set_cons_succ])
  refine wpAnyH_done (by kernel_rfl) ?_ _
  have hfin : Behind w0 base WB M r j B K (.returned (.int .u8 (0 : Int))) w5 := by
    unfold Behind
    rw [show fstepM M K = _ from by simp only [fstepM, HL.out]; rfl, show fstepK M K = _ from by simp only [fstepK, HL.out]; rfl, show K.t.toNat = tn by rw [HTN.out]; rfl]
    exact ⟨rfl, X5, H5.out.dropB HJ.out⟩
  have HF := Lib.hid hfin
  clear hfin hHeld
  go_wp2_with fail
  (try simp only [to2])
  go_ret
  exact HF.out
end
end Go.Proofs.YthafnphpcdbnlaaGreat.S14
namespace Go.Proofs.YthafnphpcdbnlaaGreat.S14
open Go.Proofs.YthafnphpcdbnlaaGreat Go.Proofs.YthafnphpcdbnlaaGreat.S11 Go.Proofs.YthafnphpcdbnlaaGreat.S12 Go.Proofs.YthafnphpcdbnlaaGreat.S13
open Go.RowKit

/-- What holds of a Free, whatever its world. -/
structure FOk (K : Fr) : Prop where
  a : K.a < 4294967296
  w : K.w < 18446744073709551616
  con : 3 ≤ K.ln → K.ln ≤ 5 → K.l = S1.bitB K.w 0 ∧ K.q = S1.bitB K.w 1 ∧ K.h = S1.headN K.w ∧ S1.headN K.w ≠ -1
  t : 4 ≤ K.ln → 0 ≤ K.t ∧ K.t ≤ 63
  ln : K.ln ≤ 7
theorem FOk.ok {M : Sd} {K : Fr} (h : FOk K) (hn : M.n ≤ 1000000000) (hp : M.pn ≤ 1000000000) : FrOk M K := ⟨h.a, h.w, h.con, h.t, hn, hp⟩
theorem fok_new {a : Nat} (ha : a < 4294967296) : FOk (fr0 a) := ⟨ha, by show 0 < _; omega, fun h => absurd h (by show ¬ 3 ≤ 1; omega), fun h => absurd h (by show ¬ 4 ≤ 1; omega), by show 1 ≤ 7; omega⟩
theorem seekL_facts {S : S5.Lk} (h : ∀ i, S i ≤ 64) (u : Nat) : (seekL S u).2.2 = 0 ∨ ((4 ≤ (seekL S u).2.2 ∧ (seekL S u).2.2 ≤ 6) ∧ (0 ≤ (seekL S u).2.1 ∧ (seekL S u).2.1 ≤ 63) ∧ S1.headN u ≠ -1) := by
  have hle := (seekO_le h u).1
  by_cases h0 : (S5.seekO S (hdO u)).2 = 0
  · left; unfold seekL; rw [if_pos h0]
  · right
    have hh : S1.headN u ≠ -1 := by
      intro e
      apply h0
      have hn : hdO u = none := by
        unfold hdO
        unfold S1.headN at e
        split at e
        · omega
        · rename_i hu; rw [if_neg hu]
      rw [hn]; rfl
    refine ⟨?_, ?_, hh⟩
    · unfold seekL
      rw [if_neg h0]
      split
      · exact ⟨Nat.le_refl 4, by show 4 ≤ 6; omega⟩
      · split
        · exact ⟨by show 4 ≤ 5; omega, by show 5 ≤ 6; omega⟩
        · exact ⟨by show 4 ≤ 6; omega, Nat.le_refl 6⟩
    · have ht : (seekL S u).2.1 = ((S5.seekO S (hdO u)).2 : Int) - 1 := by
        unfold seekL
        rw [if_neg h0]
        split
        · rfl
        · split <;> rfl
      rw [ht]
      omega
theorem fok_look {K : Fr} (h : FOk K) {x : Nat} (hx : x < 18446744073709551616) : FOk ((K.says x).look) := by
  refine ⟨h.a, hx, fun h3 _ => ?_, fun h4 => ?_, ?_⟩
  · refine ⟨rfl, rfl, rfl, fun e => ?_⟩
    have e' : S1.headN x = -1 := e
    have hi : idle x = true := by unfold idle; rw [decide_eq_true e', Bool.or_true]
    have : ((K.says x).look).ln = 0 := by show (if idle x = true then 0 else 3) = 0; rw [if_pos hi]
    omega
  · exfalso
    have : ((K.says x).look).ln ≤ 3 := by show (if idle x = true then 0 else 3) ≤ 3; split <;> omega
    omega
  · have : ((K.says x).look).ln ≤ 3 := by show (if idle x = true then 0 else 3) ≤ 3; split <;> omega
    omega
theorem fok_seek {K : Fr} (ha : K.a < 4294967296) (hw : K.w < 18446744073709551616) (hc : K.l = S1.bitB K.w 0 ∧ K.q = S1.bitB K.w 1 ∧ K.h = S1.headN K.w) {S : S5.Lk} (hk : ∀ i, S i ≤ 64) : FOk (K.seek S) := by
  have hf := seekL_facts hk K.w
  have e1 : (K.seek S).ln = (seekL S K.w).2.2 := rfl
  have e2 : (K.seek S).t = (seekL S K.w).2.1 := rfl
  refine ⟨ha, hw, fun h3 _ => ?_, fun h4 => ?_, ?_⟩
  · rcases hf with h | ⟨_, _, h⟩
    · omega
    · exact ⟨hc.1, hc.2.1, hc.2.2, h⟩
  · rcases hf with h | ⟨_, h, _⟩
    · omega
    · rw [e2]; exact h
  · omega
theorem FOk.step {M : Sd} {K : Fr} (h : FOk K) (hl : ∀ a, S2.look M.L a < 18446744073709551616) (hk : ∀ i, M.lk i ≤ 64) : FOk (fstepK M K) := by
  have hx := hl K.a
  rcases (show K.ln = 0 ∨ K.ln = 1 ∨ K.ln = 2 ∨ K.ln = 3 ∨ K.ln = 4 ∨ K.ln = 5 ∨ K.ln = 6 ∨ K.ln = 7 by have := h.ln; omega) with e | e | e | e | e | e | e | e
  · have : fstepK M K = K := by unfold fstepK; rw [e]; rfl
    rw [this]; exact h
  · have : fstepK M K = { K with ln := if idle (S2.look M.L K.a) = true then 0 else 2, l := S1.bitB (S2.look M.L K.a) 0, q := S1.bitB (S2.look M.L K.a) 1, h := S1.headN (S2.look M.L K.a) } := by unfold fstepK; rw [e]; rfl
    rw [this]
    have h2 : (if idle (S2.look M.L K.a) = true then 0 else 2) ≤ 2 := by split <;> omega
    exact ⟨h.a, h.w, fun h3 _ => absurd h3 (by show ¬ 3 ≤ (if idle (S2.look M.L K.a) = true then 0 else 2); omega), fun h4 => absurd h4 (by show ¬ 4 ≤ (if idle (S2.look M.L K.a) = true then 0 else 2); omega), by show (if idle (S2.look M.L K.a) = true then 0 else 2) ≤ 7; omega⟩
  · have : fstepK M K = (K.says (S2.look M.L K.a)).look := by unfold fstepK; rw [e]; rfl
    rw [this]; exact fok_look h hx
  · obtain ⟨c1, c2, c3, c4⟩ := h.con (by omega) (by omega)
    by_cases hc : S2.look M.L K.a = K.w
    · have : fstepK M K = ({ K with q := true, w := wq K.w true } : Fr).seek M.lk := by unfold fstepK; rw [e]; exact if_pos hc
      rw [this]
      exact fok_seek (K := { K with q := true, w := wq K.w true }) h.a (wq_lt _ _) ⟨by rw [(wq_says K.w true).1]; exact c1, (wq_says K.w true).2.1.symm, by rw [(wq_says K.w true).2.2]; exact c3⟩ hk
    · have : fstepK M K = (K.says (S2.look M.L K.a)).look := by unfold fstepK; rw [e]; exact if_neg hc
      rw [this]; exact fok_look h hx
  · by_cases hc : S2.look M.L K.a = K.w
    · have : fstepK M K = { K with ln := 0, q := false } := by unfold fstepK; rw [e]; exact if_pos hc
      rw [this]
      exact ⟨h.a, h.w, fun h3 _ => absurd h3 (by show ¬ 3 ≤ 0; omega), fun h4 => absurd h4 (by show ¬ 4 ≤ 0; omega), by show 0 ≤ 7; omega⟩
    · have : fstepK M K = (K.says (S2.look M.L K.a)).seek M.lk := by unfold fstepK; rw [e]; exact if_neg hc
      rw [this]; exact fok_seek (K := K.says (S2.look M.L K.a)) h.a hx ⟨rfl, rfl, rfl⟩ hk
  · by_cases hc : S2.look M.L K.a = K.w
    · have : fstepK M K = { K with ln := 7, l := false, q := false, h := -1 } := by unfold fstepK; rw [e]; exact if_pos hc
      rw [this]
      exact ⟨h.a, h.w, fun _ h5 => absurd h5 (by show ¬ 7 ≤ 5; omega), fun _ => h.t (by omega), by show 7 ≤ 7; omega⟩
    · have : fstepK M K = (K.says (S2.look M.L K.a)).seek M.lk := by unfold fstepK; rw [e]; exact if_neg hc
      rw [this]; exact fok_seek (K := K.says (S2.look M.L K.a)) h.a hx ⟨rfl, rfl, rfl⟩ hk
  · have : fstepK M K = { K with ln := 7 } := by unfold fstepK; rw [e]; rfl
    rw [this]
    exact ⟨h.a, h.w, fun _ h5 => absurd h5 (by show ¬ 7 ≤ 5; omega), fun _ => h.t (by omega), by show 7 ≤ 7; omega⟩
  · have : fstepK M K = { K with ln := 0 } := by unfold fstepK; rw [e]; rfl
    rw [this]
    exact ⟨h.a, h.w, fun h3 _ => absurd h3 (by show ¬ 3 ≤ 0; omega), fun h4 => absurd h4 (by show ¬ 4 ≤ 0; omega), by show 0 ≤ 7; omega⟩
section
variable {w0 w w' : World} {base WB : Nat} {M : Sd} {r : List Part} {j B : Nat} {K : Fr} {X : Wm}
theorem beh_any (h : Wf w0 w base WB M r j B K X) (ok : FrOk M K) (h0 : K.ln ≠ 0) (h7 : K.ln ≤ 7) : Calls Tryz.prog 46 #[Pw B, Pw WB] w (Behind w0 base WB M r j B K) := by
  rcases (show K.ln = 1 ∨ K.ln = 2 ∨ K.ln = 3 ∨ K.ln = 4 ∨ K.ln = 5 ∨ K.ln = 6 ∨ K.ln = 7 by omega) with e | e | e | e | e | e | e
  · exact beh1 h ok e
  · exact beh2 h ok e
  · exact beh3 h ok e
  · exact beh4 h ok e
  · exact beh5 h ok e
  · exact beh6 h ok e
  · exact beh7 h ok e
/-- A step. -/
theorem step_f (h : Wf w0 w base WB M r j B K X) (ok : FrOk M K) (h7 : K.ln ≤ 7) : Calls Tryz.prog 28 #[Pw B, Pw WB] w fun e w' => e = .returned (.bool (decide ((fstepK M K).ln = 0))) ∧ ∃ X', Wf w0 w' base WB (fstepM M K) r j B (fstepK M K) X' := by
  by_cases h0 : K.ln = 0
  · have e1 : fstepM M K = M := by unfold fstepM; rw [h0]; rfl
    have e2 : fstepK M K = K := by unfold fstepK; rw [h0]; rfl
    rw [e1, e2]
    have hov := over_f h.b0
    rw [decide_eq_true h0] at hov
    have HOV := Lib.hid hov
    have HE := Lib.hid (And.intro (decide_eq_true h0) h)
    clear hov h ok h0 h7 e1 e2
    go_enter Tryz.func28, Tryz.ntmps28
    go_upto_region 3 with (go_at_call 45; refine HOV.out.mono ?_; rintro e w2 ⟨rfl, rfl⟩)
    go_wp2_with (go_at_call 45; refine HOV.out.mono ?_; rintro e w2 ⟨rfl, rfl⟩)
    go_ret
    exact ⟨by rw [HE.out.1]; rfl, X, HE.out.2⟩
  · have hov := over_f h.b0
    rw [decide_eq_false h0] at hov
    have HOV := Lib.hid hov
    have HBH := Lib.hid (beh_any h ok h0 h7)
    clear hov h ok h0 h7
    obtain ⟨n, hn⟩ : ∃ n, n = (fstepK M K).ln := ⟨_, rfl⟩
    rw [← hn]
    have HN := Lib.hid hn
    clear hn
    go_enter Tryz.func28, Tryz.ntmps28
    go_upto_region 2 with (go_at_call 45; refine HOV.out.mono ?_; rintro e w2 ⟨rfl, rfl⟩)
    go_upto_region 3 with (go_at_call 46; refine HBH.out.mono ?_; rintro e w3 ⟨rfl, X3, h3⟩; have H3 := Lib.hid h3; have c0 := h3.b0; have f0 := h3.fz 0; clear h3)
    rw [← HN.out]
    have h4 := H3.out.line n
    generalize w3.setCell ⟨B, 0, none⟩ (.int .u8 (n : Int)) = w4 at *
    have h5 : Wf w0 w4 base WB (fstepM M K) r j B (fstepK M K) X3 := by
      have e : ({ ({ fstepK M K with ln := K.ln } : Fr) with ln := n } : Fr) = fstepK M K := by rw [HN.out]
      rw [e] at h4; exact h4
    have hov2 := over_f h5.b0
    rw [← HN.out] at hov2
    have HOV2 := Lib.hid hov2; have H5 := Lib.hid h5
    clear hov2 h4 h5 c0 f0 H3 HOV HBH
    go_wp2_with (go_at_call 45; refine HOV2.out.mono ?_; rintro e w5 ⟨rfl, rfl⟩)
    go_ret
    exact ⟨rfl, X3, H5.out⟩
end
end Go.Proofs.YthafnphpcdbnlaaGreat.S14
namespace Go.Proofs.YthafnphpcdbnlaaGreat.S13
open Go.Proofs.YthafnphpcdbnlaaGreat Go.Proofs.YthafnphpcdbnlaaGreat.S11 Go.Proofs.YthafnphpcdbnlaaGreat.S12
open Go.RowKit

/-- What a new world says. -/
def sdN (spin : Int) (most : Nat) : Sd := ⟨L02, 0, 0, 0, 0, 0, 0, most, [], fun _ => S4.pk0, 0, 0, 0, S5.S0, S10.M0 0, [], spin⟩
theorem at0_sd {X : Wm} {spin : Int} {most : Nat} (h : At0 X spin most []) : X.sd = sdN spin most := by
  unfold Wm.sd sdN
  rw [h.L, h.n, h.k, h.a, h.was, h.is, h.T, h.most, h.D, h.pf, h.pn, h.pk, h.pp, h.lk, h.tM, h.nD, h.sp]
theorem pg_of {w0 w : World} {base : Nat} {X : Wm} (h : PW w base X) (b : Below base w0 w) : Pg w0 w base X.wB X.sd [] X :=
  ⟨by rw [List.append_nil]; exact h, rfl, rfl, b⟩
section
variable {w0 w w' : World} {base WB : Nat} {M : Sd} {r : List Part} {X : Wm}
theorem Pg.add (h : Pg w0 w base WB M r X) (ob : Obj) : Pg w0 (w.alloc ob) base WB M (r ++ [blockP w.heap.size ob]) X := by
  have hp := h.ps.push (blockP w.heap.size ob) (below1 w ob) (heap_alloc_new w ob) (fun k e => Nat.le_of_eq (show k = w.heap.size from e).symm)
  rw [List.append_assoc] at hp
  exact ⟨hp, h.wB, h.xm, h.bl.alloc h.size _⟩
/-- A lock that begins, beside the world. -/
theorem Pg.lock (h : Pg w0 w base WB M r X) (K : Lk) : Wl w0 (w.alloc (.cells K.cs 209)) base WB M (r ++ [lockP w.heap.size K]) r.length w.heap.size K X := by
  refine ⟨?_, by rw [List.length_append]; simp⟩
  rw [List.set_append_right _ _ (Nat.le_refl _), Nat.sub_self]
  exact Pg.add h _
end
set_option maxRecDepth 100000 in
theorem world_any (sp : Nat) (hsp : sp < 256) (w : World) : Calls Tryz.prog 4 #[.int .u8 (sp : Int)] w fun e w' => ∃ X, e = .returned (Pw X.wB) ∧ PW w' w.heap.size X ∧ At0 X ((sp % 17 : Nat) : Int) 5 [] ∧ Below w.heap.size w w' := by
  have hck : ∀ W, Below w.heap.size w W → Calls Tryz.prog 34 #[.slice none 0 0, .int .u64 ((5 : Nat) : Int)] W (S3.Made W 0 5 []) := fun W _ => S3.new_any (D := []) (b2 := 0) 0 5 (Nat.le_refl _) (by omega) (by omega) S3.Rd.nil (Nat.zero_le _) (fun d hd => by cases hd)
  have hok : okC (((sp % 17 : Nat) : Int)) 0 = true := by simp [okC]; omega
  have hnew : Calls Tryz.prog 13 #[.agg #[.int .i64 ((sp % 17 : Nat) : Int), .int .u64 5, .slice none 0 0]] w fun e w' => NewW w w' ((sp % 17 : Nat) : Int) 5 [] e := new_yes _ 5 0 0 none hok hck
  have e1 : (sp : Int).tmod 17 = ((sp % 17 : Nat) : Int) := by rw [Int.tmod_eq_emod_of_nonneg (by omega)]; omega
  have e1' : (sp : Int) % 17 = ((sp % 17 : Nat) : Int) := by omega
  have e2 : IntKind.u8.wrap ((sp % 17 : Nat) : Int) = ((sp % 17 : Nat) : Int) := by rw [IntKind.wrap_u8]; omega
  have e3 : IntKind.i64.wrap ((sp % 17 : Nat) : Int) = ((sp % 17 : Nat) : Int) := by rw [IntKind.wrap_i64]; omega
  have e4 : wrap64 ((sp % 17 : Nat) : Int) = ((sp % 17 : Nat) : Int) := by unfold wrap64; omega
  have e5 : IntKind.i64.wrap (sp : Int) = (sp : Int) := by rw [IntKind.wrap_i64]; omega
  have HN := Lib.hid hnew
  clear hck hok hnew hsp
  generalize sp % 17 = n at *
  go_enter Tryz.func4, Tryz.ntmps4
  go_wp2_with (go_at_call 13; refine HN.out.mono ?_; rintro e w1 ⟨X, rfl, hp, h0, hb⟩)
  go_ret
  exact ⟨X, rfl, hp, h0, hb⟩
/-- A lock's steps, one behind the other. -/
def it (p : Sd × Lk) : Sd × Lk := (stepM p.1 p.2, stepK p.1 p.2)
def itn (p : Sd × Lk) : Nat → Sd × Lk
  | 0 => p
  | n + 1 => it (itn p n)
theorem meth_step (a : Addr) (w : World) : (method 324 202 (.pointer (some a)) "Step").run Tryz.prog w = .ok (122, .pointer (some a)) w := by kernel_rfl
end Go.Proofs.YthafnphpcdbnlaaGreat.S13
namespace Go.Proofs.YthafnphpcdbnlaaGreat.S4
open Go.Proofs.YthafnphpcdbnlaaGreat Go.Proofs.YthafnphpcdbnlaaGreat.S11
open Go.RowKit

theorem eql161 (x y : Pk) (w : World) : (binOp .eql 136 (pkV x) (pkV y)).run Tryz.prog w = .ok (.bool (decide (x = y))) w := by
  obtain ⟨p, a, o, t⟩ := x; obtain ⟨p', a', o', t'⟩ := y
  simp [go_sem, Tryz.underlying136]
  by_cases h1 : p = p' <;> by_cases h2 : a = a' <;> by_cases h3 : o = o' <;> by_cases h4 : t = t' <;> simp [h1, h2, h3, h4, Int.ofNat_inj]
end Go.Proofs.YthafnphpcdbnlaaGreat.S4
namespace Go.Proofs.YthafnphpcdbnlaaGreat.S14
open Go.Proofs.YthafnphpcdbnlaaGreat Go.Proofs.YthafnphpcdbnlaaGreat.S11 Go.Proofs.YthafnphpcdbnlaaGreat.S12 Go.Proofs.YthafnphpcdbnlaaGreat.S13
open Go.RowKit

section
variable {P : Program} {md : Region.Mode} {ops : Array Oper} {Q : Exit → Act → World → Prop} {S S' : World → Prop}
theorem wpAnyH_more' (h : ∀ w, S' w → S w) : ∀ (fuel : Nat) (listed : Array Bool) (a : Act) (w : World), wpAnyH P md ops Q S' fuel listed a w → wpAnyH P md ops Q S fuel listed a w
  | 0, _, _, _, hq => hq
  | fuel + 1, _, _, _, hq => ⟨hq.1, fun i hi => wpOp_mono (fun a' w' h' => ⟨h w' h'.1, wpAnyH_more' h fuel _ a' w' h'.2⟩) (hq.2 i hi)⟩
end
/-- A Free's steps, one behind the other. -/
def fit (p : Sd × Fr) : Sd × Fr := (fstepM p.1 p.2, fstepK p.1 p.2)
def fitn (p : Sd × Fr) : Nat → Sd × Fr
  | 0 => p
  | n + 1 => fit (fitn p n)
theorem fstepM_n (M : Sd) (K : Fr) : (fstepM M K).n ≤ M.n + 1 ∧ (fstepM M K).pn ≤ M.pn + 1 := by
  unfold fstepM
  split <;> (try split) <;> simp [Sd.acc, Sd.link, Sd.unpark, Sd.call] <;> omega
theorem fitn_n (p : Sd × Fr) : ∀ n, (fitn p n).1.n ≤ p.1.n + n ∧ (fitn p n).1.pn ≤ p.1.pn + n
  | 0 => ⟨Nat.le_refl _, Nat.le_refl _⟩
  | n + 1 => by
    have h1 := fitn_n p n
    have h2 := fstepM_n (fitn p n).1 (fitn p n).2
    show (fstepM _ _).n ≤ _ ∧ (fstepM _ _).pn ≤ _
    omega
theorem meth_free (a : Addr) (w : World) : (method 324 33 (.pointer (some a)) "Step").run Tryz.prog w = .ok (28, .pointer (some a)) w := by kernel_rfl
section
variable {w0 w w' : World} {base WB : Nat} {M : Sd} {r : List Part} {j B : Nat} {K : Fr} {X : Wm}
theorem Wf.pf (h : Wf w0 w base WB M r j B K X) : X.pf = M.pf := congrArg Sd.pf h.pg.xm
set_option maxRecDepth 100000 in
set_option maxHeartbeats 4000000 in
/-- A Free that runs alone. -/
theorem run_f (h : Wf w0 w base WB M r j B K X) (hk : FOk K) (n most : Nat) (hn0 : 0 < n) (hnm : n ≤ most) (hm : most ≤ 100) (hMn : M.n ≤ 900000000) (hMp : M.pn ≤ 900000000)
    (hpos : ∀ i, i < n → (fitn (M, K) i).2.ln ≠ 0) (hend : (fitn (M, K) n).2.ln = 0) :
    Calls Tryz.prog 15 #[Pw WB, .iface 33 (Pw B), .int .i64 (most : Int)] w fun e w' => e = .returned (.int .i64 (n : Int)) ∧ ∃ X', Wf w0 w' base WB (fitn (M, K) n).1 r j B (fitn (M, K) n).2 X' := by
  have hm1 := meth_free ⟨B, 0, none⟩
  have H := Lib.hid (And.intro h hk); have HP := Lib.hid (And.intro hpos hend); have HB := Lib.hid (And.intro hn0 (And.intro hnm (And.intro hm (And.intro hMn hMp))))
  clear h hk hpos hend hn0 hnm hm hMn hMp
  go_enter Tryz.func15, Tryz.ntmps15
  go_wp2_with fail
  go_loopg [7] n (fun q s7 wx => ∃ i : Nat, i < n ∧ q = n - i ∧ s7 = .int .i64 ((i + 1 : Nat) : Int) ∧ FOk (fitn (M, K) i).2 ∧ ∃ X, Wf w0 wx base WB (fitn (M, K) i).1 r j B (fitn (M, K) i).2 X)
  case atStart => exact ⟨0, HB.out.1, by omega, rfl, H.out.2, X, H.out.1⟩
  case round =>
    obtain ⟨i, hi, rfl, rfl, hok, X2, hw⟩ := hrel
    have hb := fitn_n (M, K) i
    have hst := step_f hw (hok.ok (by have := HB.out; have h1 : (M, K).1.n = M.n := rfl; omega) (by have := HB.out; have h1 : (M, K).1.pn = M.pn := rfl; omega)) hok.ln
    have hok2 := hok.step hw.look (fun k => pg_le hw.pg k)
    have hle : ((i + 1 : Nat) : Int) ≤ (most : Int) := by have := HB.out; omega
    have d1 : decide (((i + 1 : Nat) : Int) ≤ (most : Int)) = true := decide_eq_true hle
    have HOK2 := Lib.hid hok2; have HI := Lib.hid hi
    by_cases he : i + 1 = n
    · have e0 : (fstepK (fitn (M, K) i).1 (fitn (M, K) i).2).ln = 0 := by
        have := HP.out.2
        rw [← he] at this
        exact this
      rw [decide_eq_true e0] at hst
      have HST := Lib.hid hst; have HE := Lib.hid he
      clear hst hw hok hok2 hb e0 he hi
      go_wp2_with (go_at_call 28; refine HST.out.mono ?_; rintro e w6 ⟨rfl, hs⟩)
      go_ret
      obtain ⟨X3, h3⟩ := hs
      refine ⟨by rw [← HE.out]; simp, X3, ?_⟩
      rw [← HE.out]; exact h3
    · have e0 : ¬ (fstepK (fitn (M, K) i).1 (fitn (M, K) i).2).ln = 0 := HP.out.1 (i + 1) (by have := HI.out; omega)
      rw [decide_eq_false e0] at hst
      have HST := Lib.hid hst; have HE := Lib.hid he
      have hm9 : i + 1 ≤ 100 := by have := HB.out; omega
      clear hst hw hok hok2 hb e0 he hi
      go_wp2_with (go_at_call 28; refine HST.out.mono ?_; rintro e w6 ⟨rfl, hs⟩)
      go_roundg (n - (i + 1))
      case measure => have := HI.out; omega
      case rel => exact ⟨i + 1, by have := HI.out; have := HE.out; omega, rfl, by go_num, HOK2.out, hs⟩
end
/-- What the world is behind a thread that queues, without spins. -/
def qM (M : Sd) (t : Nat) : Sd := (((((M.acc 3 267 (S2.look M.L 267)).prep (2 * t + 1)).link (S5.pushS M.lk (some t) (hdO (S2.look M.L 267)))).acc 3 267 (S1.putU true (S1.bitB (S2.look M.L 267) 1) t)).park (2 * t + 1))
theorem bring267 (v : Nat) : S2.bring 267 v = v := by
  have e : S2.byteB 267 = false := by decide
  unfold S2.bring; rw [e]; rfl
theorem look267 (M : Sd) (k y : Nat) : S2.look (M.acc k 267 y).L 267 = y := by
  show S2.look (S2.putL M.L 267 (S2.bring 267 y)) 267 = y
  rw [S2.look_put_same, bring267]
/-- The lock's states. -/
def qp (M : Sd) (t : Nat) : Nat → Sd × Lk
  | 0 => (M, lk1 t 267)
  | 1 => (M.acc 3 267 (S2.look M.L 267), ⟨4, t, 267, S2.look M.L 267, M.sp⟩)
  | 2 => ((((M.acc 3 267 (S2.look M.L 267)).prep (2 * t + 1)).link (S5.pushS M.lk (some t) (hdO (S2.look M.L 267)))), ⟨5, t, 267, S2.look M.L 267, M.sp⟩)
  | _ => ((((M.acc 3 267 (S2.look M.L 267)).prep (2 * t + 1)).link (S5.pushS M.lk (some t) (hdO (S2.look M.L 267)))).acc 3 267 (S1.putU true (S1.bitB (S2.look M.L 267) 1) t), ⟨6, t, 267, S2.look M.L 267, M.sp⟩)
section
variable {M : Sd} {t : Nat}
theorem bit_ne {u : Nat} (hb : S1.bitB u 0 = true) : u ≠ 0 := by
  intro e; subst e; revert hb; decide
theorem qp_step (hs : M.sp = 0) (hb : S1.bitB (S2.look M.L 267) 0 = true) (i : Nat) (hi : i < 3) : stepM (qp M t i).1 (qp M t i).2 = (qp M t (i + 1)).1 ∧ stepK (qp M t i).1 (qp M t i).2 = (qp M t (i + 1)).2 := by
  obtain ⟨u, hu⟩ : ∃ u, u = S2.look M.L 267 := ⟨_, rfl⟩
  rcases (show i = 0 ∨ i = 1 ∨ i = 2 by omega) with rfl | rfl | rfl
  · have hne : ¬ S2.look M.L 267 = 0 := bit_ne hb
    refine ⟨?_, ?_⟩
    · show M.acc 3 267 (S2.casV (S2.look M.L 267) 0 1) = M.acc 3 267 (S2.look M.L 267)
      rw [S2.casV, if_neg hne]
    · show Lk.cas _ (S2.look M.L 267) 0 _ = _
      unfold Lk.cas
      rw [if_neg hne]
      unfold Lk.turn
      rw [if_neg (by rw [hb]; decide)]
      show (if S1.headN (S2.look M.L 267) = -1 then (if 0 < M.sp then _ else _) else _) = _
      rw [hs]
      split
      · rw [if_neg (by omega)]; rfl
      · rfl
  · exact ⟨rfl, rfl⟩
  · have hl : S2.look ((((M.acc 3 267 (S2.look M.L 267)).prep (2 * t + 1)).link (S5.pushS M.lk (some t) (hdO (S2.look M.L 267))))).L 267 = S2.look M.L 267 := look267 M 3 _
    refine ⟨?_, ?_⟩
    · show Sd.acc _ 3 267 (S2.casV (S2.look ((((M.acc 3 267 (S2.look M.L 267)).prep (2 * t + 1)).link (S5.pushS M.lk (some t) (hdO (S2.look M.L 267))))).L 267) (S2.look M.L 267) (S1.putU (S1.bitB (S2.look M.L 267) 0) (S1.bitB (S2.look M.L 267) 1) t)) = _
      rw [hl, S2.casV, if_pos rfl, hb]; rfl
    · show Lk.cas _ (S2.look ((((M.acc 3 267 (S2.look M.L 267)).prep (2 * t + 1)).link (S5.pushS M.lk (some t) (hdO (S2.look M.L 267))))).L 267) (S2.look M.L 267) _ = _
      rw [hl]
      unfold Lk.cas
      rw [if_pos rfl]; rfl
theorem qp_ln (i : Nat) (hi : i ≤ 3) : (qp M t i).2.ln ≠ 0 ∧ (i < 3 → (qp M t i).2.ln ≠ 6) ∧ (i = 3 → (qp M t i).2.ln = 6) ∧ (qp M t i).2.ln ≤ 6 := by
  rcases (show i = 0 ∨ i = 1 ∨ i = 2 ∨ i = 3 by omega) with rfl | rfl | rfl | rfl
  · exact ⟨by show 1 ≠ 0; omega, fun _ => by show 1 ≠ 6; omega, fun h => by omega, by show 1 ≤ 6; omega⟩
  · exact ⟨by show 4 ≠ 0; omega, fun _ => by show 4 ≠ 6; omega, fun h => by omega, by show 4 ≤ 6; omega⟩
  · exact ⟨by show 5 ≠ 0; omega, fun _ => by show 5 ≠ 6; omega, fun h => by omega, by show 5 ≤ 6; omega⟩
  · exact ⟨by show 6 ≠ 0; omega, fun h => by omega, fun _ => rfl, by show 6 ≤ 6; omega⟩
theorem qp_ok (ht : t < 64) (hs : M.sp = 0) (hl : S2.look M.L 267 < 18446744073709551616) (hn : M.n ≤ 900000000) (hp : M.pn ≤ 900000000) (i : Nat) (hi : i ≤ 3) : LkOk (qp M t i).1 (qp M t i).2 := by
  have hs0 : (0 : Int) ≤ M.sp ∧ M.sp ≤ 16 := by omega
  rcases (show i = 0 ∨ i = 1 ∨ i = 2 ∨ i = 3 by omega) with rfl | rfl | rfl | rfl
  · exact ⟨ht, by show 267 < _; omega, by show 0 < _; omega, ⟨by show (0 : Int) ≤ 0; omega, by show (0 : Int) ≤ 16; omega⟩, hs0, by show M.n ≤ _; omega, by show M.pn ≤ _; omega⟩
  · exact ⟨ht, by show 267 < _; omega, hl, hs0, hs0, by show M.n + 1 ≤ _; omega, by show M.pn ≤ _; omega⟩
  · exact ⟨ht, by show 267 < _; omega, hl, hs0, hs0, by show M.n + 1 ≤ _; omega, by show M.pn + 1 ≤ _; omega⟩
  · exact ⟨ht, by show 267 < _; omega, hl, hs0, hs0, by show M.n + 1 + 1 ≤ _; omega, by show M.pn + 1 ≤ _; omega⟩
theorem qp_last : stepM (qp M t 3).1 (qp M t 3).2 = qM M t ∧ stepK (qp M t 3).1 (qp M t 3).2 = (qp M t 3).2 := by
  refine ⟨rfl, ?_⟩
  have hp : ((qp M t 3).1.pf (2 * t + 1)).p = false := by
    show (S4.updP M.pf (2 * t + 1) S4.pk0 (2 * t + 1)).p = false
    unfold S4.updP
    rw [if_pos rfl]; rfl
  show (if ((qp M t 3).1.pf (2 * t + 1)).p then _ else _) = _
  rw [hp]; rfl
theorem qM_asleep : ((qM M t).pf (2 * t + 1)).a = true := by
  have hp : (S4.updP M.pf (2 * t + 1) S4.pk0 (2 * t + 1)) = S4.pk0 := by unfold S4.updP; rw [if_pos rfl]
  show (S4.updP (S4.updP M.pf (2 * t + 1) S4.pk0) (2 * t + 1) (S4.parkK (S4.updP M.pf (2 * t + 1) S4.pk0 (2 * t + 1))) (2 * t + 1)).a = true
  rw [hp]
  unfold S4.updP
  rw [if_pos rfl]; rfl
end
section
variable {w0 w w' : World} {base WB : Nat} {M : Sd} {r : List Part} {X : Wm}
theorem pg_drop {q : Part} (h : Pg w0 w base WB M (r ++ [q]) X) : Pg w0 w base WB M r X := by
  have hp := h.ps
  rw [← List.append_assoc] at hp
  exact ⟨Parts.left hp, h.wB, h.xm, h.bl⟩
/-- The examples' states. -/
def xA : Sd := (sdN 0 5).acc 2 267 1
def xB : Sd × Fr := (xA, fr0 267)
def xC : Sd := (fitn xB 1).1.acc 2 267 1
def xD : Sd × Fr := (qM xC 5, fr0 267)
theorem x1 : (fitn xB 1).2.ln = 0 ∧ S2.look (fitn xB 1).1.L 267 = 0 := ⟨by kernel_rfl, by kernel_rfl⟩
theorem x2 : xC.sp = 0 ∧ S1.bitB (S2.look xC.L 267) 0 = true ∧ xC.n ≤ 900000000 ∧ xC.pn ≤ 900000000 := ⟨rfl, by kernel_rfl, by show 3 ≤ _; omega, by show 0 ≤ _; omega⟩
theorem x3 : (fitn xD 0).2.ln = 1 ∧ (fitn xD 1).2.ln = 2 ∧ (fitn xD 2).2.ln = 3 ∧ (fitn xD 3).2.ln = 5 ∧ (fitn xD 4).2.ln = 7 ∧ (fitn xD 5).2.ln = 0 := ⟨by kernel_rfl, by kernel_rfl, by kernel_rfl, by kernel_rfl, by kernel_rfl, by kernel_rfl⟩
theorem x4 : S2.look (fitn xD 5).1.L 267 = 0 ∧ ((fitn xD 5).1.pf 11).p = true := ⟨by kernel_rfl, by kernel_rfl⟩
theorem x5 : xD.1.n ≤ 900000000 ∧ xD.1.pn ≤ 900000000 := ⟨by show 5 ≤ _; omega, by show 2 ≤ _; omega⟩
theorem Pg.freeAt (h : Pg w0 w base WB M r X) (K : Fr) : Wf w0 (w.alloc (.cells K.cs 85)) base WB M (r ++ [freeP w.heap.size K]) r.length w.heap.size K X := by
  refine ⟨?_, by rw [List.length_append]; simp⟩
  rw [List.set_append_right _ _ (Nat.le_refl _), Nat.sub_self]
  exact Pg.add h _
theorem Wf.gone {j' B : Nat} {K K' : Fr} (h : Wf w0 w base WB M (r ++ [freeP B K']) r.length B K X) : Pg w0 w base WB M r X := by
  have h4 := h.pg
  rw [List.set_append_right _ _ (Nat.le_refl _), Nat.sub_self] at h4
  exact pg_drop h4
theorem pg_store (h : Pg w0 w base WB M r X) (hn : M.n ≤ 1000000000) : Calls Tryz.prog 6 #[Pw X.cB, .int .u32 267, .int .u64 1] w fun e w' => (∃ v, e = .returned v) ∧ ∃ X', Pg w0 w' base WB (M.acc 2 267 1) r X' := by
  have h1 := h.store (a := 267) (v := 1) (by omega) (by omega) hn
  exact h1.mono (fun e w' hh => ⟨⟨_, hh.1⟩, by obtain ⟨_, X', h2, _⟩ := hh; exact ⟨X', h2⟩⟩)
end
end Go.Proofs.YthafnphpcdbnlaaGreat.S14
