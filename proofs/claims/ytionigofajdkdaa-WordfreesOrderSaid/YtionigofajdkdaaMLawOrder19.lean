/- Texts of this seat, one behind the other. -/
import Derived.Test.YtionigofajdkdaaMLawOrder18
set_option linter.unusedVariables false
set_option linter.unusedSimpArgs false
namespace Go.Proofs.Ytionigofajdkdaa.S14
open Go.Proofs.Ytionigofajdkdaa Go.Proofs.Ytionigofajdkdaa.S11 Go.Proofs.Ytionigofajdkdaa.S12 Go.Proofs.Ytionigofajdkdaa.S13
open Go.RowKit

section
variable {w0 w w' : World} {base WB : Nat} {M : Sd} {r : List Part} {j B : Nat} {K : Fr} {X : Wm}
set_option maxRecDepth 100000 in
set_option maxHeartbeats 8000000 in
theorem beh5 (h : Wf w0 w base WB M r j B K X) (ok : FrOk M K) (hl : K.ln = 5) : Calls Try.prog 88 #[Pw B, Pw WB] w (Behind w0 base WB M r j B K) := by
  have hj := h.hj
  have c0 := h.b0
  rw [hl] at c0
  have c2 := h.b2; have c3 := h.b3; have c4 := h.b4
  have hA := h.pushB (.cells #[.bool K.l, .bool K.q, .int .i64 K.h] 67)
  obtain ⟨Q, hQ⟩ : ∃ Q, Q = w.heap.size := ⟨_, rfl⟩
  rw [← hQ] at hA
  have HA := Lib.hid hA; have HJ := Lib.hid hj; have HQ := Lib.hid hQ; have HOK := Lib.hid ok; have HL := Lib.hid hl
  clear h hj hA hQ ok hl
  go_enter Try.func88, Try.ntmps88
  go_wp2_with fail
  refine wp_scope_two rfl rfl ?_
  go_upto_region 3 with (fail)
  rw [← HQ.out]
  generalize w.alloc (.cells #[.bool K.l, .bool K.q, .int .i64 K.h] 67) = w1 at *
  clear c0 c2 c3 c4
  have c0 := HA.out.b0
  rw [HL.out] at c0
  obtain ⟨kl, kq, kh, kn⟩ := HOK.out.con (by rw [HL.out]; omega) (by rw [HL.out]; omega)
  have hput : S1.putU K.l K.q K.h = K.w := by rw [kl, kq, kh]; exact (word_put kn).1
  have hish : S1.isHead K.h := by rw [kh]; exact S1.head_is _
  go_upto_region 21 with (fail)
  clear c0
  have H2 := Lib.hid HA.out
  obtain ⟨w2, hw2⟩ : ∃ w2, w2 = w1 := ⟨_, rfl⟩
  rw [← hw2] at H2 ⊢
  clear hw2
  obtain ⟨x, hx⟩ : ∃ x, x = S2.look M.L K.a := ⟨_, rfl⟩
  have hsw : Calls Try.prog 91 #[Pw B, Pw WB, .agg #[.bool false, .bool false, .int .i64 (-1)]] w2 fun e w' => e = .returned (.bool (decide (x = K.w))) ∧ ∃ X', Wf w0 w' base WB (M.acc 3 K.a (S2.casV x K.w (0))) (r ++ [blockP Q (.cells #[.bool K.l, .bool K.q, .int .i64 K.h] 67)]) j B (K.cas x K.w false false (-1)) X' := by
    have hs := swapped_f H2.out HOK.out.a HOK.out.n hish hput (l2 := false) (q2 := false) (h2 := (-1)) (by unfold S1.isHead; omega)
    rw [show S1.putU false false (-1) = 0 from by decide, ← hx] at hs
    exact hs
  obtain ⟨M1, hM1⟩ : ∃ M1, M1 = M.acc 3 K.a (S2.casV x K.w (0)) := ⟨_, rfl⟩
  rw [← hM1] at hsw
  have HM1 := Lib.hid hM1; have HX := Lib.hid hx
  have HCON := Lib.hid (And.intro kl (And.intro kq (And.intro kh kn)))
  have hlk : M1.lk = M.lk := by rw [hM1]; rfl
  have HLK := Lib.hid hlk
  clear hM1 hput hish kl kq kh kn hlk
  by_cases e : x = K.w
  · have hsw2 := hsw
    rw [decide_eq_true e, show K.cas x K.w false false (-1) = { K with l := false, q := false, h := (-1) } from if_pos e] at hsw2
    have HSW := Lib.hid hsw2; have HE := Lib.hid e
    clear hsw hsw2 hx e
    have hfin : ∀ w' X', Wf w0 w' base WB M1 (r ++ [blockP Q (.cells #[.bool K.l, .bool K.q, .int .i64 K.h] 67)]) j B { K with l := false, q := false, h := (-1) } X' → Behind w0 base WB M r j B K (.returned (.int .u8 (7 : Int))) w' := fun w' X' h => by
      unfold Behind
      rw [show fstepM M K = _ from by simp only [fstepM, HL.out]; rfl, show fstepK M K = _ from by simp only [fstepK, HL.out]; rfl, ← HX.out, if_pos HE.out, if_pos HE.out, ← HM1.out]
      exact ⟨rfl, X', h.dropB HJ.out⟩
    have HF := Lib.hid hfin
    clear hfin
    go_wp2_with (go_at_call 91; refine HSW.out.mono ?_; rintro e w5 ⟨rfl, X5, h5⟩; have H5 := Lib.hid h5; clear h5)
    (try simp only [to2])
    go_ret
    exact HF.out _ _ H5.out
  · have hsw2 := hsw
    rw [decide_eq_false e, show K.cas x K.w false false (-1) = { K with l := S1.bitB x 0, q := S1.bitB x 1, h := S1.headN x } from if_neg e] at hsw2
    have HSW := Lib.hid hsw2; have HE := Lib.hid e
    clear hsw hsw2 hx e
    have HU := Lib.hid (show (K.says x).l = S1.bitB x 0 ∧ (K.says x).h = S1.headN x from ⟨rfl, rfl⟩)
    have hsb : ∀ e w', SeekF w0 base WB M1 (r ++ [blockP Q (.cells #[.bool K.l, .bool K.q, .int .i64 K.h] 67)]) j B (K.says x) x e w' → Behind w0 base WB M r j B K e w' := fun e w' h => by
      obtain ⟨rfl, X', h⟩ := h
      unfold Behind
      rw [show fstepM M K = _ from by simp only [fstepM, HL.out]; rfl, show fstepK M K = _ from by simp only [fstepK, HL.out]; rfl, ← HX.out, if_neg HE.out, if_neg HE.out, ← HM1.out]
      rw [HLK.out] at h ⊢
      exact ⟨rfl, X', h.dropB HJ.out⟩
    have HSB := Lib.hid hsb
    clear hsb
    go_wp2_with (go_at_call 91; refine HSW.out.mono ?_; rintro e w5 ⟨rfl, X5, h5⟩; have H5 := Lib.hid h5; clear h5)
    have H6' := Lib.hid (H5.out.recast (K.says x) rfl)
    clear H5
    go_step3
    refine Or.inr ⟨rfl, ?_⟩
    show Code.wp _ _ _ _ _
    obtain ⟨lv, hlv⟩ : ∃ b, b = S1.bitB x 0 := ⟨_, rfl⟩
    obtain ⟨hv, hhv⟩ : ∃ b, b = S1.headN x := ⟨_, rfl⟩
    obtain ⟨n2, hn2⟩ : ∃ n, n = (S5.seekO (M1).lk (hdO x)).2 := ⟨_, rfl⟩
    obtain ⟨S2, hS2⟩ : ∃ S, S = (S5.seekO (M1).lk (hdO x)).1 := ⟨_, rfl⟩
    have hle := seekO_le (S := (M1).lk) (fun i => pg_le H6'.out.pg i) x
    rw [← hn2, ← hS2] at hle
    have hsk : Calls Try.prog 94 #[Pw X5.lB, .int .i64 hv] w5.drew fun e w' => e = .returned (.int .i64 ((n2 : Int) - 1)) ∧ ∃ X', Pg w0 w' base WB ((M1).link S2) ((r ++ [blockP Q (.cells #[.bool K.l, .bool K.q, .int .i64 K.h] 67)]).set j (freeP B (K.says x))) X' ∧ X'.lB = X5.lB := by
      rw [hn2, hS2, hhv]
      exact pg_seek (H6'.out.new (Below.refl _ _).drew).pg (num_head x)
    have HSK := Lib.hid hsk
    have HLV := Lib.hid hlv; have HHV := Lib.hid hhv; have HN2 := Lib.hid hn2; have HS2 := Lib.hid hS2; have HLE := Lib.hid hle
    have e2 := H6'.out.b2; have e4 := H6'.out.b4; have e3 := H6'.out.pg.c.2.2.1; have e5 := H6'.out.b5
    rw [HU.out.1, ← hlv] at e2
    rw [HU.out.2, ← hhv] at e4
    clear hlv hhv hn2 hS2 hle hsk
    have HX9 := Lib.hid (And.intro e3 e4)
    go_upto_region 29 with (fail)
    refine wp_region_held_drew (S := fun w' => w'.cell? ⟨WB, 3, none⟩ = some (Pw X5.lB) ∧ w'.cell? ⟨B, 4, none⟩ = some (.int .i64 hv)) (by kernel_rfl) ?_ (fun hHeld => ?_)
    · exact HX9.out
    refine wpAnyH_take (i := 0) (oi := ({ dst := some 96, op := Op.move (Operand.tmp 5), type := 164, pos := "wordfrees.go:106", after := #[], guard := none } : Oper)) (v := ?vsm1) rfl (by kernel_rfl) (by kernel_rfl) (by kernel_rfl) (fun _ _ _ h => h) (Or.inl ⟨by rfl, fun w hSw => ?hysm1⟩) (by assumption) ?rsm1
    case hysm1 => (try dsimp only at hSw); go_simp; (try with_reducible rfl)
    (try simp only [Act.put, List.setIfInBounds_toArray, List.set_cons_zero, List.set_cons_succ])
    refine wpAnyH_take (i := 1) (oi := ({ dst := some 97, op := Op.move (Operand.tmp 1), type := 23, pos := "wordfrees.go:106", after := #[], guard := none } : Oper)) (v := ?vsm2) rfl (by kernel_rfl) (by kernel_rfl) (by kernel_rfl) (fun _ _ _ h => h) (Or.inl ⟨by rfl, fun w hSw => ?hysm2⟩) (by assumption) ?rsm2
    case hysm2 => (try dsimp only at hSw); go_simp; (try with_reducible rfl)
    (try simp only [Act.put, List.setIfInBounds_toArray, List.set_cons_zero, List.set_cons_succ])
    refine wpAnyH_take (i := 2) (oi := ({ dst := some 98, op := Op.nilCheck (Operand.tmp 97), type := 0, pos := "wordfrees.go:106", after := #[{ on := 1, ground := Ground.data }], guard := none } : Oper)) (v := ?vsm3) rfl (by kernel_rfl) (by kernel_rfl) (by kernel_rfl) (fun _ _ _ h => h) (Or.inl ⟨by rfl, fun w hSw => ?hysm3⟩) (by assumption) ?rsm3
    case hysm3 => (try dsimp only at hSw); go_simp; (try with_reducible rfl)
    (try simp only [Act.put, List.setIfInBounds_toArray, List.set_cons_zero, List.set_cons_succ])
    refine wpAnyH_take (i := 3) (oi := ({ dst := some 99, op := Op.fieldAddr 35 (Operand.tmp 98) 3, type := 0, pos := "wordfrees.go:106", after := #[{ on := 2, ground := Ground.data }], guard := none } : Oper)) (v := ?vsm4) rfl (by kernel_rfl) (by kernel_rfl) (by kernel_rfl) (fun _ _ _ h => h) (Or.inl ⟨by rfl, fun w hSw => ?hysm4⟩) (by assumption) ?rsm4
    case hysm4 => (try dsimp only at hSw); go_simp; (try with_reducible rfl)
    (try simp only [Act.put, List.setIfInBounds_toArray, List.set_cons_zero, List.set_cons_succ])
    refine wpAnyH_take (i := 4) (oi := ({ dst := some 100, op := Op.load 30 (Operand.tmp 99), type := 30, pos := "wordfrees.go:106", after := #[{ on := 3, ground := Ground.data }], guard := none } : Oper)) (v := ?vsm5) rfl (by kernel_rfl) (by kernel_rfl) (by kernel_rfl) (fun _ _ _ h => h) (Or.inl ⟨by rfl, fun w hSw => ?hysm5⟩) (by assumption) ?rsm5
    case hysm5 => (try dsimp only at hSw); go_simp; (try with_reducible rfl)
    (try simp only [Act.put, List.setIfInBounds_toArray, List.set_cons_zero, List.set_cons_succ])
    refine wpAnyH_take (i := 5) (oi := ({ dst := some 101, op := Op.move (Operand.tmp 5), type := 164, pos := "wordfrees.go:106", after := #[], guard := none } : Oper)) (v := ?vsm6) rfl (by kernel_rfl) (by kernel_rfl) (by kernel_rfl) (fun _ _ _ h => h) (Or.inl ⟨by rfl, fun w hSw => ?hysm6⟩) (by assumption) ?rsm6
    case hysm6 => (try dsimp only at hSw); go_simp; (try with_reducible rfl)
    (try simp only [Act.put, List.setIfInBounds_toArray, List.set_cons_zero, List.set_cons_succ])
    refine wpAnyH_take (i := 6) (oi := ({ dst := some 102, op := Op.nilCheck (Operand.tmp 101), type := 0, pos := "wordfrees.go:106", after := #[{ on := 5, ground := Ground.data }], guard := none } : Oper)) (v := ?vsm7) rfl (by kernel_rfl) (by kernel_rfl) (by kernel_rfl) (fun _ _ _ h => h) (Or.inl ⟨by rfl, fun w hSw => ?hysm7⟩) (by assumption) ?rsm7
    case hysm7 => (try dsimp only at hSw); go_simp; (try with_reducible rfl)
    (try simp only [Act.put, List.setIfInBounds_toArray, List.set_cons_zero, List.set_cons_succ])
    refine wpAnyH_take (i := 7) (oi := ({ dst := some 103, op := Op.fieldAddr 69 (Operand.tmp 102) 0, type := 0, pos := "wordfrees.go:106", after := #[{ on := 6, ground := Ground.data }], guard := none } : Oper)) (v := ?vsm8) rfl (by kernel_rfl) (by kernel_rfl) (by kernel_rfl) (fun _ _ _ h => h) (Or.inl ⟨by rfl, fun w hSw => ?hysm8⟩) (by assumption) ?rsm8
    case hysm8 => (try dsimp only at hSw); go_simp; (try with_reducible rfl)
    (try simp only [Act.put, List.setIfInBounds_toArray, List.set_cons_zero, List.set_cons_succ])
    refine wpAnyH_take (i := 8) (oi := ({ dst := some 104, op := Op.fieldAddr 67 (Operand.tmp 103) 2, type := 0, pos := "wordfrees.go:106", after := #[{ on := 7, ground := Ground.data }], guard := none } : Oper)) (v := ?vsm9) rfl (by kernel_rfl) (by kernel_rfl) (by kernel_rfl) (fun _ _ _ h => h) (Or.inl ⟨by rfl, fun w hSw => ?hysm9⟩) (by assumption) ?rsm9
    case hysm9 => (try dsimp only at hSw); go_simp; (try with_reducible rfl)
    (try simp only [Act.put, List.setIfInBounds_toArray, List.set_cons_zero, List.set_cons_succ])
    refine wpAnyH_take (i := 9) (oi := ({ dst := some 105, op := Op.load 3 (Operand.tmp 104), type := 3, pos := "wordfrees.go:106", after := #[{ on := 8, ground := Ground.data }], guard := none } : Oper)) (v := ?vsm10) rfl (by kernel_rfl) (by kernel_rfl) (by kernel_rfl) (fun _ _ _ h => h) (Or.inl ⟨by rfl, fun w hSw => ?hysm10⟩) (by assumption) ?rsm10
    case hysm10 => (try dsimp only at hSw); go_simp; (try with_reducible rfl)
    (try simp only [Act.put, List.setIfInBounds_toArray, List.set_cons_zero, List.set_cons_succ])
    refine wpAnyH_ready (rs := [10]) (by kernel_rfl) (by simp) ?_
    refine AllReadyH.cons (o := ({ dst := some 106, op := Op.call { callee := Callee.value (Operand.func 94), args := #[Operand.tmp 100, Operand.tmp 105], argTypes := #[30, 3] }, type := 3, pos := "wordfrees.go:106", after := #[{ on := 4, ground := Ground.data }, { on := 9, ground := Ground.data }], guard := none } : Oper)) rfl (fun Kq hKq => ?_) AllReadyH.nil
    go_simp
    (refine HSK.out.mono ?_; rintro e w6 ⟨rfl, X6, h6g, hlb6⟩; have H6 := Lib.hid (show Wf w0 w6 base WB ((M1).link S2) (r ++ [blockP Q (.cells #[.bool K.l, .bool K.q, .int .i64 K.h] 67)]) j B (K.says x) X6 from ⟨h6g, H6'.out.hj⟩); have HLB := Lib.hid hlb6; clear h6g hlb6)
    refine hKq.out _ _ ?_ (fun hHeld => ?_)
    · (have q3 := H6.out.pg.c.2.2.1; have q4 := H6.out.b4; rw [HLB.out] at q3; refine ⟨q3, ?_⟩; rw [HHV.out, ← HU.out.2]; exact q4)
    clear hKq Kq
    (try simp only [Act.put, List.setIfInBounds_toArray, List.set_cons_zero, List.set_cons_succ])
    refine wpAnyH_take (i := 11) (oi := ({ dst := some 107, op := Op.nilCheck (Operand.tmp 96), type := 0, pos := "wordfrees.go:106", after := #[{ on := 0, ground := Ground.data }, { on := 0, ground := Ground.phase }, { on := 1, ground := Ground.phase }, { on := 2, ground := Ground.phase }, { on := 3, ground := Ground.phase }, { on := 4, ground := Ground.phase }, { on := 5, ground := Ground.phase }, { on := 6, ground := Ground.phase }, { on := 7, ground := Ground.phase }, { on := 8, ground := Ground.phase }, { on := 9, ground := Ground.phase }, { on := 10, ground := Ground.phase }], guard := none } : Oper)) (v := ?vsm11) rfl (by kernel_rfl) (by kernel_rfl) (by kernel_rfl) (fun _ _ _ h => h) (Or.inl ⟨by rfl, fun w hSw => ?hysm11⟩) (by assumption) ?rsm11
    case hysm11 => (try dsimp only at hSw); go_simp; (try with_reducible rfl)
    (try simp only [Act.put, List.setIfInBounds_toArray, List.set_cons_zero, List.set_cons_succ])
    refine wpAnyH_take (i := 12) (oi := ({ dst := some 108, op := Op.fieldAddr 69 (Operand.tmp 107) 1, type := 0, pos := "wordfrees.go:106", after := #[{ on := 11, ground := Ground.data }, { on := 0, ground := Ground.phase }, { on := 1, ground := Ground.phase }, { on := 2, ground := Ground.phase }, { on := 3, ground := Ground.phase }, { on := 4, ground := Ground.phase }, { on := 5, ground := Ground.phase }, { on := 6, ground := Ground.phase }, { on := 7, ground := Ground.phase }, { on := 8, ground := Ground.phase }, { on := 9, ground := Ground.phase }, { on := 10, ground := Ground.phase }], guard := none } : Oper)) (v := ?vsm12) rfl (by kernel_rfl) (by kernel_rfl) (by kernel_rfl) (fun _ _ _ h => h) (Or.inl ⟨by rfl, fun w hSw => ?hysm12⟩) (by assumption) ?rsm12
    case hysm12 => (try dsimp only at hSw); go_simp; (try with_reducible rfl)
    (try simp only [Act.put, List.setIfInBounds_toArray, List.set_cons_zero, List.set_cons_succ])
    refine wpAnyH_ready (rs := [13]) (by kernel_rfl) (by simp) ?_
    refine AllReadyH.cons (o := ({ dst := none, op := Op.store 3 (Operand.tmp 108) (Operand.tmp 106), type := 0, pos := "wordfrees.go:106", after := #[{ on := 12, ground := Ground.data }, { on := 10, ground := Ground.data }, { on := 10, ground := Ground.chain }, { on := 0, ground := Ground.phase }, { on := 1, ground := Ground.phase }, { on := 2, ground := Ground.phase }, { on := 3, ground := Ground.phase }, { on := 4, ground := Ground.phase }, { on := 5, ground := Ground.phase }, { on := 6, ground := Ground.phase }, { on := 7, ground := Ground.phase }, { on := 8, ground := Ground.phase }, { on := 9, ground := Ground.phase }, { on := 10, ground := Ground.phase }], guard := none } : Oper)) rfl (fun Kq hKq => ?_) AllReadyH.nil
    (have y5 := H6.out.b5; have f5 := H6.out.fz 5; go_simp; have h7 := H6.out.tail ((n2 : Int) - 1); have H7 := Lib.hid h7; clear y5 f5 h7; generalize w6.setCell ⟨B, 5, none⟩ (.int .i64 ((n2 : Int) - 1)) = w7 at *)
    refine hKq.out _ _ ?_ (fun hHeld => ?_)
    · (have q3 := H7.out.pg.c.2.2.1; have q4 := H7.out.b4; rw [HLB.out] at q3; refine ⟨q3, ?_⟩; rw [HHV.out, ← HU.out.2]; exact q4)
    clear hKq Kq
    (try simp only [Act.put, List.setIfInBounds_toArray, List.set_cons_zero, List.set_cons_succ])
    refine wpAnyH_done (by kernel_rfl) ?_ _
    clear hHeld e2 e3 e4 e5 HSK
    have e5 := H7.out.b5; have e2 := H7.out.b2; have e4 := H7.out.b4; have e3 := H7.out.pg.c.2.2.1
    replace e2 : w7.cell? ⟨B, 2, none⟩ = some (.bool lv) := by rw [HLV.out, ← HU.out.1]; exact e2
    replace e4 : w7.cell? ⟨B, 4, none⟩ = some (.int .i64 hv) := by rw [HHV.out, ← HU.out.2]; exact e4
    have hleaf : ∀ (W : World) (S : S5.Lk) (t : Int) (n : Nat), (S, t, n) = seekL (M1).lk x → (∃ X', Wf w0 W base WB ((M1).link S) (r ++ [blockP Q (.cells #[.bool K.l, .bool K.q, .int .i64 K.h] 67)]) j B { (K.says x : Fr) with t := t } X') → Behind w0 base WB M r j B K (.returned (.int .u8 (n : Int))) W := fun W S t n hs ⟨X', hx⟩ => by
      refine HSB.out _ _ ⟨?_, X', ?_⟩
      · rw [← hs]
      · rw [← hs]; exact hx
    have HLF := Lib.hid hleaf
    clear hleaf
    cases n2 with
    | zero =>
      have e6 : w7.cell? ⟨B, 5, none⟩ = some (.int .i64 (-1)) := e5
      have hq : (S2, (-1 : Int), 0) = seekL (M1).lk x := by unfold seekL; rw [if_pos HN2.out.symm, ← HS2.out]
      have HFIN := Lib.hid (HLF.out w7 _ _ _ hq ⟨X6, H7.out⟩)
      clear e5 hq HLF
      go_wp2_with fail
      (try simp only [Exit.noGoto])
      go_ret
      exact HFIN.out
    | succ m =>
      have em : ((m + 1 : Nat) : Int) - 1 = (m : Int) := by omega
      have hm := HLE.out.1
      rw [em] at e5
      have hne : ((m : Int) == -1) = false := by rw [beq_eq_false_iff_ne]; omega
      have hn0 : ¬ (S5.seekO (M1).lk (hdO x)).2 = 0 := by rw [← HN2.out]; omega
      have htl : (((S5.seekO (M1).lk (hdO x)).2 : Int) - 1) = (m : Int) := by rw [← HN2.out]; omega
      have hpr : (S5.seekO (M1).lk (hdO x)).2 - 1 = m := by rw [← HN2.out]; omega
      have h8 := H7.out
      rw [em] at h8
      have H8 := Lib.hid h8; have HM := Lib.hid (show m < 64 by omega); have HEQ := Lib.hid (And.intro hn0 (And.intro htl hpr))
      clear em hm hn0 htl hpr h8 H7
      cases lv with
      | true =>
        have hq : (S2, (m : Int), 4) = seekL (M1).lk x := by unfold seekL; rw [if_neg HEQ.out.1, if_pos HLV.out.symm, HEQ.out.2.1, ← HS2.out]
        have HFIN := Lib.hid (HLF.out w7 _ _ _ hq ⟨X6, H8.out⟩)
        clear hq HLF
        go_wp2_with fail
        (try simp only [Exit.noGoto])
        go_ret
        exact HFIN.out
      | false =>
        obtain ⟨y0, y1, y2, hat0⟩ : ∃ y0 y1 y2 : Int, (Calls Try.prog 95 #[Pw X6.lB, .int .i64 (m : Int)] w7.drew fun e w' => e = .returned (.agg #[.int .i64 y0, .int .i64 y1, .int .i64 y2]) ∧ Below w7.drew.heap.size w7.drew w') ∧ y1 = (S2 (m * 3 + 1) : Int) - 1 := ⟨_, _, _, pg_at (H8.out.new (Below.refl _ _).drew).pg HM.out, rfl⟩
        have HAT := Lib.hid hat0.1; have HY1 := Lib.hid hat0.2
        have hfd : ∀ w : World, (Instr.field 167 (.agg #[.int .i64 y0, .int .i64 y1, .int .i64 y2]) 1).run Try.prog w = .ok (.int .i64 y1) w := fun w => field_prev _ _ _ w
        clear hat0
        by_cases hp : S2 (m * 3 + 1) = 0
        · have hy : y1 = -1 := by rw [HY1.out, hp]; rfl
          subst hy
          have hq : (S2, (m : Int), 5) = seekL (M1).lk x := by unfold seekL; rw [if_neg HEQ.out.1, if_neg (by rw [← HLV.out]; decide), HEQ.out.2.2, HEQ.out.2.1, ← HS2.out, if_pos hp]
          have HFIN := Lib.hid (fun W (b : Below w7.heap.size w7 W) => HLF.out W _ _ _ hq ⟨X6, H8.out.new b⟩)
          clear hq HLF hp
          go_upto_region 34 with (fail)
          go_still_tail 8, (by kernel_rfl)
          change wpList _ _ _ _ _ w7.drew
          go_wp2_with (go_at_call 95; refine HAT.out.mono ?_; rintro e w8 ⟨rfl, hb8⟩; have HB8 := Lib.hid hb8; clear hb8)
          (try simp only [Exit.noGoto])
          go_ret
          exact HFIN.out _ (Below.trans (Below.refl _ _).drew HB8.out)
        · have hy : (y1 == -1) = false := by rw [HY1.out, beq_eq_false_iff_ne]; omega
          have hq : ((S5.cutO S2 (hdO x) (some m)).1, (m : Int), 6) = seekL (M1).lk x := by unfold seekL; rw [if_neg HEQ.out.1, if_neg (by rw [← HLV.out]; decide), HEQ.out.2.2, HEQ.out.2.1, ← HS2.out, if_neg hp]
          have HFIN := Lib.hid (fun W => HLF.out W _ _ _ hq)
          clear hq HLF hp
          go_upto_region 34 with (fail)
          go_still_tail 8, (by kernel_rfl)
          change wpList _ _ _ _ _ w7.drew
          go_upto_region 36 with (go_at_call 95; refine HAT.out.mono ?_; rintro e w8 ⟨rfl, hb8⟩; have H9 := Lib.hid (H8.out.new ((Below.refl _ _).drew.trans hb8)); clear hb8)
          clear e2 e3 e4 e5
          have e5 := H9.out.b5; have e4 := H9.out.b4; have e3 := H9.out.pg.c.2.2.1
          replace e4 : w8.cell? ⟨B, 4, none⟩ = some (.int .i64 hv) := by rw [HHV.out, ← HU.out.2]; exact e4
          have hct : Calls Try.prog 96 #[Pw X6.lB, .int .i64 hv, .int .i64 (m : Int)] w8.drew fun e w' => (∃ v, e = .returned (.int .i64 v)) ∧ ∃ X', Pg w0 w' base WB (((M1).link S2).link (S5.cutO S2 (hdO x) (some m)).1) ((r ++ [blockP Q (.cells #[.bool K.l, .bool K.q, .int .i64 K.h] 67)]).set j (freeP B { (K.says x : Fr) with t := (m : Int) })) X' ∧ X'.lB = X6.lB := by
            rw [HHV.out]
            exact (pg_cut (H9.out.new (Below.refl _ _).drew).pg (num_head x) (show S5.Num (m : Int) (some m) from ⟨rfl, HM.out⟩)).mono (fun e w' h => ⟨⟨_, h.1⟩, h.2⟩)
          have HCT := Lib.hid hct
          clear hct
          go_still_tail 13, (by kernel_rfl)
          change wpList _ _ _ _ _ w8.drew
          go_wp2_with (go_at_call 96; refine HCT.out.mono ?_; rintro e w9 ⟨⟨cv, rfl⟩, X9, h9, hlb9⟩; have H10 := Lib.hid h9; clear h9 hlb9)
          (try simp only [Exit.noGoto])
          go_ret
          exact HFIN.out _ ⟨X9, H10.out, H9.out.hj⟩
end
end Go.Proofs.Ytionigofajdkdaa.S14
namespace Go.Proofs.Ytionigofajdkdaa.S14
open Go.Proofs.Ytionigofajdkdaa Go.Proofs.Ytionigofajdkdaa.S11 Go.Proofs.Ytionigofajdkdaa.S12 Go.Proofs.Ytionigofajdkdaa.S13
open Go.RowKit

section
variable {w0 w w' : World} {base WB : Nat} {M : Sd} {r : List Part} {j B : Nat} {K : Fr} {X : Wm}
set_option maxRecDepth 100000 in
set_option maxHeartbeats 8000000 in
theorem beh6 (h : Wf w0 w base WB M r j B K X) (ok : FrOk M K) (hl : K.ln = 6) : Calls Try.prog 88 #[Pw B, Pw WB] w (Behind w0 base WB M r j B K) := by
  have hj := h.hj
  have c0 := h.b0
  rw [hl] at c0
  have c2 := h.b2; have c3 := h.b3; have c4 := h.b4
  have hA := h.pushB (.cells #[.bool K.l, .bool K.q, .int .i64 K.h] 67)
  obtain ⟨Q, hQ⟩ : ∃ Q, Q = w.heap.size := ⟨_, rfl⟩
  rw [← hQ] at hA
  have HA := Lib.hid hA; have HJ := Lib.hid hj; have HQ := Lib.hid hQ; have HOK := Lib.hid ok; have HL := Lib.hid hl
  clear h hj hA hQ ok hl
  go_enter Try.func88, Try.ntmps88
  go_wp2_with fail
  refine wp_scope_two rfl rfl ?_
  go_upto_region 3 with (fail)
  rw [← HQ.out]
  generalize w.alloc (.cells #[.bool K.l, .bool K.q, .int .i64 K.h] 67) = w1 at *
  clear c0 c2 c3 c4
  have c0 := HA.out.b0
  rw [HL.out] at c0
  have hput : ∀ W, Calls Try.prog 43 #[.agg #[.bool false, .bool true, .int .i64 (-1)]] W fun e w' => e = .returned (.int .u64 2) ∧ Below W.heap.size W w' := fun W => by
    have := S1.putU_any false true (-1) (by unfold S1.isHead; omega) W
    rwa [show S1.putU false true (-1) = 2 by decide] at this
  have HPT := Lib.hid hput
  have hnd : ∀ W, Wf w0 W base WB M (r ++ [blockP Q (.cells #[.bool K.l, .bool K.q, .int .i64 K.h] 67)]) j B K X → Calls Try.prog 92 #[Pw X.cB, .int .u32 (K.a : Int), .int .u64 18446744073709551613] W fun e w' => (∃ v, e = .returned v) ∧ ∃ X', Wf w0 w' base WB (M.acc 6 K.a (S2.look M.L K.a &&& 18446744073709551613)) (r ++ [blockP Q (.cells #[.bool K.l, .bool K.q, .int .i64 K.h] 67)]) j B K X' ∧ X'.cB = X.cB := fun W hW => by
    have h1 := pg_and hW.pg HOK.out.a (v := 18446744073709551613) (by omega) HOK.out.n
    rw [show ((18446744073709551613 : Nat) : Int) = 18446744073709551613 from rfl] at h1
    exact h1.mono (fun e w' h => ⟨⟨_, h.1⟩, by obtain ⟨_, X', h2, h3⟩ := h; exact ⟨X', ⟨h2, hW.hj⟩, h3⟩⟩)
  have HND := Lib.hid hnd
  have hx0 := HA.out.cells
  have HX0 := Lib.hid hx0
  clear hput hnd
  go_upto_region 24 with (fail)
  clear c0
  refine wp_region_held_drew (S := fun w' => w'.cell? ⟨WB, 0, none⟩ = some (Pw X.cB) ∧ w'.cell? ⟨B, 1, none⟩ = some (.int .u32 (K.a : Int))) (by kernel_rfl) ?_ (fun hHeld => ?_)
  · exact HX0.out
  refine wpAnyH_take (i := 0) (oi := ({ dst := some 82, op := Op.move (Operand.tmp 1), type := 23, pos := "wordfrees.go:94", after := #[], guard := none } : Oper)) (v := ?vnm1) rfl (by kernel_rfl) (by kernel_rfl) (by kernel_rfl) (fun _ _ _ h => h) (Or.inl ⟨by rfl, fun w hSw => ?hynm1⟩) (by assumption) ?rnm1
  case hynm1 => (try dsimp only at hSw); go_simp; (try with_reducible rfl)
  (try simp only [Act.put, List.setIfInBounds_toArray, List.set_cons_zero, List.set_cons_succ])
  refine wpAnyH_take (i := 1) (oi := ({ dst := some 83, op := Op.nilCheck (Operand.tmp 82), type := 0, pos := "wordfrees.go:94", after := #[{ on := 0, ground := Ground.data }], guard := none } : Oper)) (v := ?vnm2) rfl (by kernel_rfl) (by kernel_rfl) (by kernel_rfl) (fun _ _ _ h => h) (Or.inl ⟨by rfl, fun w hSw => ?hynm2⟩) (by assumption) ?rnm2
  case hynm2 => (try dsimp only at hSw); go_simp; (try with_reducible rfl)
  (try simp only [Act.put, List.setIfInBounds_toArray, List.set_cons_zero, List.set_cons_succ])
  refine wpAnyH_take (i := 2) (oi := ({ dst := some 84, op := Op.fieldAddr 35 (Operand.tmp 83) 0, type := 0, pos := "wordfrees.go:94", after := #[{ on := 1, ground := Ground.data }], guard := none } : Oper)) (v := ?vnm3) rfl (by kernel_rfl) (by kernel_rfl) (by kernel_rfl) (fun _ _ _ h => h) (Or.inl ⟨by rfl, fun w hSw => ?hynm3⟩) (by assumption) ?rnm3
  case hynm3 => (try dsimp only at hSw); go_simp; (try with_reducible rfl)
  (try simp only [Act.put, List.setIfInBounds_toArray, List.set_cons_zero, List.set_cons_succ])
  refine wpAnyH_take (i := 3) (oi := ({ dst := some 85, op := Op.load 27 (Operand.tmp 84), type := 27, pos := "wordfrees.go:94", after := #[{ on := 2, ground := Ground.data }], guard := none } : Oper)) (v := ?vnm4) rfl (by kernel_rfl) (by kernel_rfl) (by kernel_rfl) (fun _ _ _ h => h) (Or.inl ⟨by rfl, fun w hSw => ?hynm4⟩) (by assumption) ?rnm4
  case hynm4 => (try dsimp only at hSw); go_simp; (try with_reducible rfl)
  (try simp only [Act.put, List.setIfInBounds_toArray, List.set_cons_zero, List.set_cons_succ])
  refine wpAnyH_take (i := 4) (oi := ({ dst := some 86, op := Op.move (Operand.tmp 0), type := 42, pos := "wordfrees.go:94", after := #[], guard := none } : Oper)) (v := ?vnm5) rfl (by kernel_rfl) (by kernel_rfl) (by kernel_rfl) (fun _ _ _ h => h) (Or.inl ⟨by rfl, fun w hSw => ?hynm5⟩) (by assumption) ?rnm5
  case hynm5 => (try dsimp only at hSw); go_simp; (try with_reducible rfl)
  (try simp only [Act.put, List.setIfInBounds_toArray, List.set_cons_zero, List.set_cons_succ])
  refine wpAnyH_take (i := 5) (oi := ({ dst := some 87, op := Op.nilCheck (Operand.tmp 86), type := 0, pos := "wordfrees.go:94", after := #[{ on := 4, ground := Ground.data }], guard := none } : Oper)) (v := ?vnm6) rfl (by kernel_rfl) (by kernel_rfl) (by kernel_rfl) (fun _ _ _ h => h) (Or.inl ⟨by rfl, fun w hSw => ?hynm6⟩) (by assumption) ?rnm6
  case hynm6 => (try dsimp only at hSw); go_simp; (try with_reducible rfl)
  (try simp only [Act.put, List.setIfInBounds_toArray, List.set_cons_zero, List.set_cons_succ])
  refine wpAnyH_take (i := 6) (oi := ({ dst := some 88, op := Op.fieldAddr 71 (Operand.tmp 87) 1, type := 0, pos := "wordfrees.go:94", after := #[{ on := 5, ground := Ground.data }], guard := none } : Oper)) (v := ?vnm7) rfl (by kernel_rfl) (by kernel_rfl) (by kernel_rfl) (fun _ _ _ h => h) (Or.inl ⟨by rfl, fun w hSw => ?hynm7⟩) (by assumption) ?rnm7
  case hynm7 => (try dsimp only at hSw); go_simp; (try with_reducible rfl)
  (try simp only [Act.put, List.setIfInBounds_toArray, List.set_cons_zero, List.set_cons_succ])
  refine wpAnyH_take (i := 7) (oi := ({ dst := some 89, op := Op.load 38 (Operand.tmp 88), type := 38, pos := "wordfrees.go:94", after := #[{ on := 6, ground := Ground.data }], guard := none } : Oper)) (v := ?vnm8) rfl (by kernel_rfl) (by kernel_rfl) (by kernel_rfl) (fun _ _ _ h => h) (Or.inl ⟨by rfl, fun w hSw => ?hynm8⟩) (by assumption) ?rnm8
  case hynm8 => (try dsimp only at hSw); go_simp; (try with_reducible rfl)
  (try simp only [Act.put, List.setIfInBounds_toArray, List.set_cons_zero, List.set_cons_succ])
  refine wpAnyH_take (i := 8) (oi := ({ dst := some 90, op := Op.build 67 #[(1, Operand.const (Value.bool true)), (2, Operand.const (Value.int IntKind.i64 (-1)))], type := 67, pos := "wordfrees.go:94", after := #[], guard := none } : Oper)) (v := ?vnm9) rfl (by kernel_rfl) (by kernel_rfl) (by kernel_rfl) (fun _ _ _ h => h) (Or.inl ⟨by rfl, fun w hSw => ?hynm9⟩) (by assumption) ?rnm9
  case hynm9 => (try dsimp only at hSw); go_simp; (try with_reducible rfl)
  (try simp only [Act.put, List.setIfInBounds_toArray, List.set_cons_zero, List.set_cons_succ])
  refine wpAnyH_ready (rs := [9]) (by kernel_rfl) (by simp) ?_
  refine AllReadyH.cons (o := ({ dst := some 91, op := Op.call { callee := Callee.value (Operand.func 43), args := #[Operand.tmp 90], argTypes := #[67] }, type := 26, pos := "wordfrees.go:94", after := #[{ on := 8, ground := Ground.data }], guard := none } : Oper)) rfl (fun Kq hKq => ?_) AllReadyH.nil
  go_simp
  (refine (HPT.out _).mono ?_; rintro e w4 ⟨rfl, hb4⟩; have H4 := Lib.hid ((HA.out.new (Below.refl _ _).drew).new hb4); clear hb4)
  refine hKq.out _ _ ?_ (fun hHeld => ?_)
  · exact H4.out.cells
  clear hKq Kq
  (try simp only [Act.put, List.setIfInBounds_toArray, List.set_cons_zero, List.set_cons_succ])
  refine wpAnyH_take (i := 10) (oi := ({ dst := some 92, op := Op.unOp UnOp.xor 26 (Operand.tmp 91), type := 26, pos := "wordfrees.go:94", after := #[{ on := 9, ground := Ground.data }], guard := none } : Oper)) (v := ?vnm10) rfl (by kernel_rfl) (by kernel_rfl) (by kernel_rfl) (fun _ _ _ h => h) (Or.inl ⟨by rfl, fun w hSw => ?hynm10⟩) (by assumption) ?rnm10
  case hynm10 => (try dsimp only at hSw); go_simp; (try with_reducible rfl)
  (try simp only [Act.put, List.setIfInBounds_toArray, List.set_cons_zero, List.set_cons_succ])
  refine wpAnyH_ready (rs := [11]) (by kernel_rfl) (by simp) ?_
  refine AllReadyH.cons (o := ({ dst := some 93, op := Op.call { callee := Callee.value (Operand.func 92), args := #[Operand.tmp 85, Operand.tmp 89, Operand.tmp 92], argTypes := #[27, 38, 26] }, type := 26, pos := "wordfrees.go:94", after := #[{ on := 3, ground := Ground.data }, { on := 7, ground := Ground.data }, { on := 10, ground := Ground.data }, { on := 9, ground := Ground.chain }], guard := none } : Oper)) rfl (fun Kq hKq => ?_) AllReadyH.nil
  go_simp
  (refine (HND.out w4 H4.out).mono ?_; rintro e w5 ⟨⟨av, rfl⟩, X5, h5, hcb5⟩; have H5 := Lib.hid h5; have HCB5 := Lib.hid hcb5; clear h5 hcb5)
  refine hKq.out _ _ ?_ (fun hHeld => ?_)
  · (have q := H5.out.cells; rw [HCB5.out] at q; exact q)
  clear hKq Kq
  (try simp only [Act.put, List.setIfInBounds_toArray, List.set_cons_zero, List.set_cons_succ])
  refine wpAnyH_done (by kernel_rfl) ?_ _
  have hfin : Behind w0 base WB M r j B K (.returned (.int .u8 (7 : Int))) w5 := by
    unfold Behind
    rw [show fstepM M K = _ from by simp only [fstepM, HL.out]; rfl, show fstepK M K = _ from by simp only [fstepK, HL.out]; rfl]
    exact ⟨rfl, X5, H5.out.dropB HJ.out⟩
  have HF := Lib.hid hfin
  clear hfin hHeld hx0
  go_wp2_with fail
  (try simp only [to2])
  go_ret
  exact HF.out
end
end Go.Proofs.Ytionigofajdkdaa.S14
namespace Go.Proofs.Ytionigofajdkdaa.S14
open Go.Proofs.Ytionigofajdkdaa Go.Proofs.Ytionigofajdkdaa.S11 Go.Proofs.Ytionigofajdkdaa.S12 Go.Proofs.Ytionigofajdkdaa.S13
open Go.RowKit

section
variable {w0 w w' : World} {base WB : Nat} {M : Sd} {r : List Part} {j B : Nat} {K : Fr} {X : Wm}
set_option maxRecDepth 100000 in
set_option maxHeartbeats 8000000 in
theorem beh7 (h : Wf w0 w base WB M r j B K X) (ok : FrOk M K) (hl : K.ln = 7) : Calls Try.prog 88 #[Pw B, Pw WB] w (Behind w0 base WB M r j B K) := by
  have hj := h.hj
  have c0 := h.b0
  rw [hl] at c0
  have c2 := h.b2; have c3 := h.b3; have c4 := h.b4
  have hA := h.pushB (.cells #[.bool K.l, .bool K.q, .int .i64 K.h] 67)
  obtain ⟨Q, hQ⟩ : ∃ Q, Q = w.heap.size := ⟨_, rfl⟩
  rw [← hQ] at hA
  have HA := Lib.hid hA; have HJ := Lib.hid hj; have HQ := Lib.hid hQ; have HOK := Lib.hid ok; have HL := Lib.hid hl
  clear h hj hA hQ ok hl
  go_enter Try.func88, Try.ntmps88
  go_wp2_with fail
  refine wp_scope_two rfl rfl ?_
  go_upto_region 3 with (fail)
  rw [← HQ.out]
  generalize w.alloc (.cells #[.bool K.l, .bool K.q, .int .i64 K.h] 67) = w1 at *
  clear c0 c2 c3 c4
  have c0 := HA.out.b0
  rw [HL.out] at c0
  obtain ⟨t0, t1⟩ := HOK.out.t (by rw [HL.out]; omega)
  obtain ⟨tn, htn⟩ := Int.eq_ofNat_of_zero_le t0
  have htl : tn < 64 := by omega
  have HWD := Lib.hid (fun W => word_any tn htl W)
  have hun : ∀ W, Wf w0 W base WB M (r ++ [blockP Q (.cells #[.bool K.l, .bool K.q, .int .i64 K.h] 67)]) j B K X → Calls Try.prog 93 #[Pw X.pB, .int .i64 ((2 * tn + 1 : Nat) : Int)] W fun e w' => e = .returned (.tuple #[]) ∧ ∃ X', Wf w0 w' base WB (M.unpark (2 * tn + 1)) (r ++ [blockP Q (.cells #[.bool K.l, .bool K.q, .int .i64 K.h] 67)]) j B K X' ∧ X'.pB = X.pB := fun W hW =>
    (hW.pg.unpark HOK.out.pn (by omega)).mono (fun e w' h => ⟨h.1, by obtain ⟨_, X', h2, h3⟩ := h; exact ⟨X', ⟨h2, hW.hj⟩, h3⟩⟩)
  have HUN := Lib.hid hun
  have hx2 := HA.out.pg.c.2.1; have hx5 := HA.out.b5
  rw [htn] at hx5
  have HX0 := Lib.hid (And.intro hx2 hx5)
  have HTN := Lib.hid htn
  clear hun t0 t1 htn htl hx2 hx5
  go_upto_region 4 with (fail)
  clear c0
  refine wp_region_held_drew (S := fun w' => w'.cell? ⟨WB, 2, none⟩ = some (Pw X.pB) ∧ w'.cell? ⟨B, 5, none⟩ = some (.int .i64 (tn : Int))) (by kernel_rfl) ?_ (fun hHeld => ?_)
  · exact HX0.out
  refine wpAnyH_take (i := 0) (oi := ({ dst := some 18, op := Op.move (Operand.tmp 1), type := 23, pos := "wordfrees.go:97", after := #[], guard := none } : Oper)) (v := ?vum1) rfl (by kernel_rfl) (by kernel_rfl) (by kernel_rfl) (fun _ _ _ h => h) (Or.inl ⟨by rfl, fun w hSw => ?hyum1⟩) (by assumption) ?rum1
  case hyum1 => (try dsimp only at hSw); go_simp; (try with_reducible rfl)
  (try simp only [Act.put, List.setIfInBounds_toArray, List.set_cons_zero, List.set_cons_succ])
  refine wpAnyH_take (i := 1) (oi := ({ dst := some 19, op := Op.nilCheck (Operand.tmp 18), type := 0, pos := "wordfrees.go:97", after := #[{ on := 0, ground := Ground.data }], guard := none } : Oper)) (v := ?vum2) rfl (by kernel_rfl) (by kernel_rfl) (by kernel_rfl) (fun _ _ _ h => h) (Or.inl ⟨by rfl, fun w hSw => ?hyum2⟩) (by assumption) ?rum2
  case hyum2 => (try dsimp only at hSw); go_simp; (try with_reducible rfl)
  (try simp only [Act.put, List.setIfInBounds_toArray, List.set_cons_zero, List.set_cons_succ])
  refine wpAnyH_take (i := 2) (oi := ({ dst := some 20, op := Op.fieldAddr 35 (Operand.tmp 19) 2, type := 0, pos := "wordfrees.go:97", after := #[{ on := 1, ground := Ground.data }], guard := none } : Oper)) (v := ?vum3) rfl (by kernel_rfl) (by kernel_rfl) (by kernel_rfl) (fun _ _ _ h => h) (Or.inl ⟨by rfl, fun w hSw => ?hyum3⟩) (by assumption) ?rum3
  case hyum3 => (try dsimp only at hSw); go_simp; (try with_reducible rfl)
  (try simp only [Act.put, List.setIfInBounds_toArray, List.set_cons_zero, List.set_cons_succ])
  refine wpAnyH_take (i := 3) (oi := ({ dst := some 21, op := Op.load 29 (Operand.tmp 20), type := 29, pos := "wordfrees.go:97", after := #[{ on := 2, ground := Ground.data }], guard := none } : Oper)) (v := ?vum4) rfl (by kernel_rfl) (by kernel_rfl) (by kernel_rfl) (fun _ _ _ h => h) (Or.inl ⟨by rfl, fun w hSw => ?hyum4⟩) (by assumption) ?rum4
  case hyum4 => (try dsimp only at hSw); go_simp; (try with_reducible rfl)
  (try simp only [Act.put, List.setIfInBounds_toArray, List.set_cons_zero, List.set_cons_succ])
  refine wpAnyH_take (i := 4) (oi := ({ dst := some 22, op := Op.move (Operand.tmp 5), type := 164, pos := "wordfrees.go:97", after := #[], guard := none } : Oper)) (v := ?vum5) rfl (by kernel_rfl) (by kernel_rfl) (by kernel_rfl) (fun _ _ _ h => h) (Or.inl ⟨by rfl, fun w hSw => ?hyum5⟩) (by assumption) ?rum5
  case hyum5 => (try dsimp only at hSw); go_simp; (try with_reducible rfl)
  (try simp only [Act.put, List.setIfInBounds_toArray, List.set_cons_zero, List.set_cons_succ])
  refine wpAnyH_take (i := 5) (oi := ({ dst := some 23, op := Op.nilCheck (Operand.tmp 22), type := 0, pos := "wordfrees.go:97", after := #[{ on := 4, ground := Ground.data }], guard := none } : Oper)) (v := ?vum6) rfl (by kernel_rfl) (by kernel_rfl) (by kernel_rfl) (fun _ _ _ h => h) (Or.inl ⟨by rfl, fun w hSw => ?hyum6⟩) (by assumption) ?rum6
  case hyum6 => (try dsimp only at hSw); go_simp; (try with_reducible rfl)
  (try simp only [Act.put, List.setIfInBounds_toArray, List.set_cons_zero, List.set_cons_succ])
  refine wpAnyH_take (i := 6) (oi := ({ dst := some 24, op := Op.fieldAddr 69 (Operand.tmp 23) 1, type := 0, pos := "wordfrees.go:97", after := #[{ on := 5, ground := Ground.data }], guard := none } : Oper)) (v := ?vum7) rfl (by kernel_rfl) (by kernel_rfl) (by kernel_rfl) (fun _ _ _ h => h) (Or.inl ⟨by rfl, fun w hSw => ?hyum7⟩) (by assumption) ?rum7
  case hyum7 => (try dsimp only at hSw); go_simp; (try with_reducible rfl)
  (try simp only [Act.put, List.setIfInBounds_toArray, List.set_cons_zero, List.set_cons_succ])
  refine wpAnyH_take (i := 7) (oi := ({ dst := some 25, op := Op.load 3 (Operand.tmp 24), type := 3, pos := "wordfrees.go:97", after := #[{ on := 6, ground := Ground.data }], guard := none } : Oper)) (v := ?vum8) rfl (by kernel_rfl) (by kernel_rfl) (by kernel_rfl) (fun _ _ _ h => h) (Or.inl ⟨by rfl, fun w hSw => ?hyum8⟩) (by assumption) ?rum8
  case hyum8 => (try dsimp only at hSw); go_simp; (try with_reducible rfl)
  (try simp only [Act.put, List.setIfInBounds_toArray, List.set_cons_zero, List.set_cons_succ])
  refine wpAnyH_ready (rs := [8]) (by kernel_rfl) (by simp) ?_
  refine AllReadyH.cons (o := ({ dst := some 26, op := Op.call { callee := Callee.value (Operand.func 11), args := #[Operand.tmp 25], argTypes := #[3] }, type := 3, pos := "wordfrees.go:97", after := #[{ on := 7, ground := Ground.data }], guard := none } : Oper)) rfl (fun Kq hKq => ?_) AllReadyH.nil
  go_simp
  (refine (HWD.out _).mono ?_; rintro e w4 ⟨rfl, rfl⟩)
  refine hKq.out _ _ ?_ (fun hHeld => ?_)
  · exact HX0.out
  clear hKq Kq
  (try simp only [Act.put, List.setIfInBounds_toArray, List.set_cons_zero, List.set_cons_succ])
  refine wpAnyH_ready (rs := [9]) (by kernel_rfl) (by simp) ?_
  refine AllReadyH.cons (o := ({ dst := some 27, op := Op.call { callee := Callee.value (Operand.func 93), args := #[Operand.tmp 21, Operand.tmp 26], argTypes := #[29, 3] }, type := 0, pos := "wordfrees.go:97", after := #[{ on := 3, ground := Ground.data }, { on := 8, ground := Ground.data }, { on := 8, ground := Ground.chain }], guard := none } : Oper)) rfl (fun Kq hKq => ?_) AllReadyH.nil
  go_simp
  (refine (HUN.out _ (HA.out.new (Below.refl _ _).drew)).mono ?_; rintro e w5 ⟨rfl, X5, h5, hpb5⟩; have H5 := Lib.hid h5; have HPB5 := Lib.hid hpb5; clear h5 hpb5)
  refine hKq.out _ _ ?_ (fun hHeld => ?_)
  · (have q2 := H5.out.pg.c.2.1; have q5 := H5.out.b5; rw [HPB5.out] at q2; rw [HTN.out] at q5; exact ⟨q2, q5⟩)
  clear hKq Kq
  (try simp only [Act.put, List.setIfInBounds_toArray, List.set_cons_zero, List.set_cons_succ])
  refine wpAnyH_done (by kernel_rfl) ?_ _
  have hfin : Behind w0 base WB M r j B K (.returned (.int .u8 (0 : Int))) w5 := by
    unfold Behind
    rw [show fstepM M K = _ from by simp only [fstepM, HL.out]; rfl, show fstepK M K = _ from by simp only [fstepK, HL.out]; rfl, show K.t.toNat = tn by rw [HTN.out]; rfl]
    exact ⟨rfl, X5, H5.out.dropB HJ.out⟩
  have HF := Lib.hid hfin
  clear hfin hHeld
  go_wp2_with fail
  (try simp only [to2])
  go_ret
  exact HF.out
end
end Go.Proofs.Ytionigofajdkdaa.S14
namespace Go.Proofs.Ytionigofajdkdaa.S14
open Go.Proofs.Ytionigofajdkdaa Go.Proofs.Ytionigofajdkdaa.S11 Go.Proofs.Ytionigofajdkdaa.S12 Go.Proofs.Ytionigofajdkdaa.S13
open Go.RowKit

/-- What holds of a Free, whatever its world. -/
structure FOk (K : Fr) : Prop where
  a : K.a < 4294967296
  w : K.w < 18446744073709551616
  con : 3 ≤ K.ln → K.ln ≤ 5 → K.l = S1.bitB K.w 0 ∧ K.q = S1.bitB K.w 1 ∧ K.h = S1.headN K.w ∧ S1.headN K.w ≠ -1
  t : 4 ≤ K.ln → 0 ≤ K.t ∧ K.t ≤ 63
  ln : K.ln ≤ 7
theorem FOk.ok {M : Sd} {K : Fr} (h : FOk K) (hn : M.n ≤ 1000000000) (hp : M.pn ≤ 1000000000) : FrOk M K := ⟨h.a, h.w, h.con, h.t, hn, hp⟩
theorem fok_new {a : Nat} (ha : a < 4294967296) : FOk (fr0 a) := ⟨ha, by show 0 < _; omega, fun h => absurd h (by show ¬ 3 ≤ 1; omega), fun h => absurd h (by show ¬ 4 ≤ 1; omega), by show 1 ≤ 7; omega⟩
theorem seekL_facts {S : S5.Lk} (h : ∀ i, S i ≤ 64) (u : Nat) : (seekL S u).2.2 = 0 ∨ ((4 ≤ (seekL S u).2.2 ∧ (seekL S u).2.2 ≤ 6) ∧ (0 ≤ (seekL S u).2.1 ∧ (seekL S u).2.1 ≤ 63) ∧ S1.headN u ≠ -1) := by
  have hle := (seekO_le h u).1
  by_cases h0 : (S5.seekO S (hdO u)).2 = 0
  · left; unfold seekL; rw [if_pos h0]
  · right
    have hh : S1.headN u ≠ -1 := by
      intro e
      apply h0
      have hn : hdO u = none := by
        unfold hdO
        unfold S1.headN at e
        split at e
        · omega
        · rename_i hu; rw [if_neg hu]
      rw [hn]; rfl
    refine ⟨?_, ?_, hh⟩
    · unfold seekL
      rw [if_neg h0]
      split
      · exact ⟨Nat.le_refl 4, by show 4 ≤ 6; omega⟩
      · split
        · exact ⟨by show 4 ≤ 5; omega, by show 5 ≤ 6; omega⟩
        · exact ⟨by show 4 ≤ 6; omega, Nat.le_refl 6⟩
    · have ht : (seekL S u).2.1 = ((S5.seekO S (hdO u)).2 : Int) - 1 := by
        unfold seekL
        rw [if_neg h0]
        split
        · rfl
        · split <;> rfl
      rw [ht]
      omega
theorem fok_look {K : Fr} (h : FOk K) {x : Nat} (hx : x < 18446744073709551616) : FOk ((K.says x).look) := by
  refine ⟨h.a, hx, fun h3 _ => ?_, fun h4 => ?_, ?_⟩
  · refine ⟨rfl, rfl, rfl, fun e => ?_⟩
    have e' : S1.headN x = -1 := e
    have hi : idle x = true := by unfold idle; rw [decide_eq_true e', Bool.or_true]
    have : ((K.says x).look).ln = 0 := by show (if idle x = true then 0 else 3) = 0; rw [if_pos hi]
    omega
  · exfalso
    have : ((K.says x).look).ln ≤ 3 := by show (if idle x = true then 0 else 3) ≤ 3; split <;> omega
    omega
  · have : ((K.says x).look).ln ≤ 3 := by show (if idle x = true then 0 else 3) ≤ 3; split <;> omega
    omega
theorem fok_seek {K : Fr} (ha : K.a < 4294967296) (hw : K.w < 18446744073709551616) (hc : K.l = S1.bitB K.w 0 ∧ K.q = S1.bitB K.w 1 ∧ K.h = S1.headN K.w) {S : S5.Lk} (hk : ∀ i, S i ≤ 64) : FOk (K.seek S) := by
  have hf := seekL_facts hk K.w
  have e1 : (K.seek S).ln = (seekL S K.w).2.2 := rfl
  have e2 : (K.seek S).t = (seekL S K.w).2.1 := rfl
  refine ⟨ha, hw, fun h3 _ => ?_, fun h4 => ?_, ?_⟩
  · rcases hf with h | ⟨_, _, h⟩
    · omega
    · exact ⟨hc.1, hc.2.1, hc.2.2, h⟩
  · rcases hf with h | ⟨_, h, _⟩
    · omega
    · rw [e2]; exact h
  · omega
theorem FOk.step {M : Sd} {K : Fr} (h : FOk K) (hl : ∀ a, S2.look M.L a < 18446744073709551616) (hk : ∀ i, M.lk i ≤ 64) : FOk (fstepK M K) := by
  have hx := hl K.a
  rcases (show K.ln = 0 ∨ K.ln = 1 ∨ K.ln = 2 ∨ K.ln = 3 ∨ K.ln = 4 ∨ K.ln = 5 ∨ K.ln = 6 ∨ K.ln = 7 by have := h.ln; omega) with e | e | e | e | e | e | e | e
  · have : fstepK M K = K := by unfold fstepK; rw [e]; rfl
    rw [this]; exact h
  · have : fstepK M K = { K with ln := if idle (S2.look M.L K.a) = true then 0 else 2, l := S1.bitB (S2.look M.L K.a) 0, q := S1.bitB (S2.look M.L K.a) 1, h := S1.headN (S2.look M.L K.a) } := by unfold fstepK; rw [e]; rfl
    rw [this]
    have h2 : (if idle (S2.look M.L K.a) = true then 0 else 2) ≤ 2 := by split <;> omega
    exact ⟨h.a, h.w, fun h3 _ => absurd h3 (by show ¬ 3 ≤ (if idle (S2.look M.L K.a) = true then 0 else 2); omega), fun h4 => absurd h4 (by show ¬ 4 ≤ (if idle (S2.look M.L K.a) = true then 0 else 2); omega), by show (if idle (S2.look M.L K.a) = true then 0 else 2) ≤ 7; omega⟩
  · have : fstepK M K = (K.says (S2.look M.L K.a)).look := by unfold fstepK; rw [e]; rfl
    rw [this]; exact fok_look h hx
  · obtain ⟨c1, c2, c3, c4⟩ := h.con (by omega) (by omega)
    by_cases hc : S2.look M.L K.a = K.w
    · have : fstepK M K = ({ K with q := true, w := wq K.w true } : Fr).seek M.lk := by unfold fstepK; rw [e]; exact if_pos hc
      rw [this]
      exact fok_seek (K := { K with q := true, w := wq K.w true }) h.a (wq_lt _ _) ⟨by rw [(wq_says K.w true).1]; exact c1, (wq_says K.w true).2.1.symm, by rw [(wq_says K.w true).2.2]; exact c3⟩ hk
    · have : fstepK M K = (K.says (S2.look M.L K.a)).look := by unfold fstepK; rw [e]; exact if_neg hc
      rw [this]; exact fok_look h hx
  · by_cases hc : S2.look M.L K.a = K.w
    · have : fstepK M K = { K with ln := 0, q := false } := by unfold fstepK; rw [e]; exact if_pos hc
      rw [this]
      exact ⟨h.a, h.w, fun h3 _ => absurd h3 (by show ¬ 3 ≤ 0; omega), fun h4 => absurd h4 (by show ¬ 4 ≤ 0; omega), by show 0 ≤ 7; omega⟩
    · have : fstepK M K = (K.says (S2.look M.L K.a)).seek M.lk := by unfold fstepK; rw [e]; exact if_neg hc
      rw [this]; exact fok_seek (K := K.says (S2.look M.L K.a)) h.a hx ⟨rfl, rfl, rfl⟩ hk
  · by_cases hc : S2.look M.L K.a = K.w
    · have : fstepK M K = { K with ln := 7, l := false, q := false, h := -1 } := by unfold fstepK; rw [e]; exact if_pos hc
      rw [this]
      exact ⟨h.a, h.w, fun _ h5 => absurd h5 (by show ¬ 7 ≤ 5; omega), fun _ => h.t (by omega), by show 7 ≤ 7; omega⟩
    · have : fstepK M K = (K.says (S2.look M.L K.a)).seek M.lk := by unfold fstepK; rw [e]; exact if_neg hc
      rw [this]; exact fok_seek (K := K.says (S2.look M.L K.a)) h.a hx ⟨rfl, rfl, rfl⟩ hk
  · have : fstepK M K = { K with ln := 7 } := by unfold fstepK; rw [e]; rfl
    rw [this]
    exact ⟨h.a, h.w, fun _ h5 => absurd h5 (by show ¬ 7 ≤ 5; omega), fun _ => h.t (by omega), by show 7 ≤ 7; omega⟩
  · have : fstepK M K = { K with ln := 0 } := by unfold fstepK; rw [e]; rfl
    rw [this]
    exact ⟨h.a, h.w, fun h3 _ => absurd h3 (by show ¬ 3 ≤ 0; omega), fun h4 => absurd h4 (by show ¬ 4 ≤ 0; omega), by show 0 ≤ 7; omega⟩
section
variable {w0 w w' : World} {base WB : Nat} {M : Sd} {r : List Part} {j B : Nat} {K : Fr} {X : Wm}
theorem beh_any (h : Wf w0 w base WB M r j B K X) (ok : FrOk M K) (h0 : K.ln ≠ 0) (h7 : K.ln ≤ 7) : Calls Try.prog 88 #[Pw B, Pw WB] w (Behind w0 base WB M r j B K) := by
  rcases (show K.ln = 1 ∨ K.ln = 2 ∨ K.ln = 3 ∨ K.ln = 4 ∨ K.ln = 5 ∨ K.ln = 6 ∨ K.ln = 7 by omega) with e | e | e | e | e | e | e
  · exact beh1 h ok e
  · exact beh2 h ok e
  · exact beh3 h ok e
  · exact beh4 h ok e
  · exact beh5 h ok e
  · exact beh6 h ok e
  · exact beh7 h ok e
/-- A step. -/
theorem step_f (h : Wf w0 w base WB M r j B K X) (ok : FrOk M K) (h7 : K.ln ≤ 7) : Calls Try.prog 87 #[Pw B, Pw WB] w fun e w' => e = .returned (.bool (decide ((fstepK M K).ln = 0))) ∧ ∃ X', Wf w0 w' base WB (fstepM M K) r j B (fstepK M K) X' := by
  by_cases h0 : K.ln = 0
  · have e1 : fstepM M K = M := by unfold fstepM; rw [h0]; rfl
    have e2 : fstepK M K = K := by unfold fstepK; rw [h0]; rfl
    rw [e1, e2]
    have hov := over_f h.b0
    rw [decide_eq_true h0] at hov
    have HOV := Lib.hid hov
    have HE := Lib.hid (And.intro (decide_eq_true h0) h)
    clear hov h ok h0 h7 e1 e2
    go_enter Try.func87, Try.ntmps87
    go_upto_region 3 with (go_at_call 86; refine HOV.out.mono ?_; rintro e w2 ⟨rfl, rfl⟩)
    go_wp2_with (go_at_call 86; refine HOV.out.mono ?_; rintro e w2 ⟨rfl, rfl⟩)
    go_ret
    exact ⟨by rw [HE.out.1]; rfl, X, HE.out.2⟩
  · have hov := over_f h.b0
    rw [decide_eq_false h0] at hov
    have HOV := Lib.hid hov
    have HBH := Lib.hid (beh_any h ok h0 h7)
    clear hov h ok h0 h7
    obtain ⟨n, hn⟩ : ∃ n, n = (fstepK M K).ln := ⟨_, rfl⟩
    rw [← hn]
    have HN := Lib.hid hn
    clear hn
    go_enter Try.func87, Try.ntmps87
    go_upto_region 2 with (go_at_call 86; refine HOV.out.mono ?_; rintro e w2 ⟨rfl, rfl⟩)
    go_upto_region 3 with (go_at_call 88; refine HBH.out.mono ?_; rintro e w3 ⟨rfl, X3, h3⟩; have H3 := Lib.hid h3; have c0 := h3.b0; have f0 := h3.fz 0; clear h3)
    rw [← HN.out]
    have h4 := H3.out.line n
    generalize w3.setCell ⟨B, 0, none⟩ (.int .u8 (n : Int)) = w4 at *
    have h5 : Wf w0 w4 base WB (fstepM M K) r j B (fstepK M K) X3 := by
      have e : ({ ({ fstepK M K with ln := K.ln } : Fr) with ln := n } : Fr) = fstepK M K := by rw [HN.out]
      rw [e] at h4; exact h4
    have hov2 := over_f h5.b0
    rw [← HN.out] at hov2
    have HOV2 := Lib.hid hov2; have H5 := Lib.hid h5
    clear hov2 h4 h5 c0 f0 H3 HOV HBH
    go_wp2_with (go_at_call 86; refine HOV2.out.mono ?_; rintro e w5 ⟨rfl, rfl⟩)
    go_ret
    exact ⟨rfl, X3, H5.out⟩
end
end Go.Proofs.Ytionigofajdkdaa.S14
namespace Go.Proofs.Ytionigofajdkdaa.S13
open Go.Proofs.Ytionigofajdkdaa Go.Proofs.Ytionigofajdkdaa.S11 Go.Proofs.Ytionigofajdkdaa.S12
open Go.RowKit

/-- What a new world says. -/
def sdN (spin : Int) (most : Nat) : Sd := ⟨L02, 0, 0, 0, 0, 0, 0, most, [], fun _ => S4.pk0, 0, 0, 0, S5.S0, S10.M0 0, [], spin⟩
theorem at0_sd {X : Wm} {spin : Int} {most : Nat} (h : At0 X spin most []) : X.sd = sdN spin most := by
  unfold Wm.sd sdN
  rw [h.L, h.n, h.k, h.a, h.was, h.is, h.T, h.most, h.D, h.pf, h.pn, h.pk, h.pp, h.lk, h.tM, h.nD, h.sp]
theorem pg_of {w0 w : World} {base : Nat} {X : Wm} (h : PW w base X) (b : Below base w0 w) : Pg w0 w base X.wB X.sd [] X :=
  ⟨by rw [List.append_nil]; exact h, rfl, rfl, b⟩
section
variable {w0 w w' : World} {base WB : Nat} {M : Sd} {r : List Part} {X : Wm}
theorem Pg.add (h : Pg w0 w base WB M r X) (ob : Obj) : Pg w0 (w.alloc ob) base WB M (r ++ [blockP w.heap.size ob]) X := by
  have hp := h.ps.push (blockP w.heap.size ob) (below1 w ob) (heap_alloc_new w ob) (fun k e => Nat.le_of_eq (show k = w.heap.size from e).symm)
  rw [List.append_assoc] at hp
  exact ⟨hp, h.wB, h.xm, h.bl.alloc h.size _⟩
/-- A lock that begins, beside the world. -/
theorem Pg.lock (h : Pg w0 w base WB M r X) (K : Lk) : Wl w0 (w.alloc (.cells K.cs 103)) base WB M (r ++ [lockP w.heap.size K]) r.length w.heap.size K X := by
  refine ⟨?_, by rw [List.length_append]; simp⟩
  rw [List.set_append_right _ _ (Nat.le_refl _), Nat.sub_self]
  exact Pg.add h _
end
set_option maxRecDepth 100000 in
theorem world_any (sp : Nat) (hsp : sp < 256) (w : World) : Calls Try.prog 4 #[.int .u8 (sp : Int)] w fun e w' => ∃ X, e = .returned (Pw X.wB) ∧ PW w' w.heap.size X ∧ At0 X ((sp % 17 : Nat) : Int) 5 [] ∧ Below w.heap.size w w' := by
  have hck : ∀ W, Below w.heap.size w W → Calls Try.prog 27 #[.slice none 0 0, .int .u64 ((5 : Nat) : Int)] W (S3.Made W 0 5 []) := fun W _ => S3.new_any (D := []) (b2 := 0) 0 5 (Nat.le_refl _) (by omega) (by omega) S3.Rd.nil (Nat.zero_le _) (fun d hd => by cases hd)
  have hok : okC (((sp % 17 : Nat) : Int)) 0 = true := by simp [okC]; omega
  have hnew : Calls Try.prog 14 #[.agg #[.int .i64 ((sp % 17 : Nat) : Int), .int .u64 5, .slice none 0 0]] w fun e w' => NewW w w' ((sp % 17 : Nat) : Int) 5 [] e := new_yes _ 5 0 0 none hok hck
  have e1 : (sp : Int).tmod 17 = ((sp % 17 : Nat) : Int) := by rw [Int.tmod_eq_emod_of_nonneg (by omega)]; omega
  have e1' : (sp : Int) % 17 = ((sp % 17 : Nat) : Int) := by omega
  have e2 : IntKind.u8.wrap ((sp % 17 : Nat) : Int) = ((sp % 17 : Nat) : Int) := by rw [IntKind.wrap_u8]; omega
  have e3 : IntKind.i64.wrap ((sp % 17 : Nat) : Int) = ((sp % 17 : Nat) : Int) := by rw [IntKind.wrap_i64]; omega
  have e4 : wrap64 ((sp % 17 : Nat) : Int) = ((sp % 17 : Nat) : Int) := by unfold wrap64; omega
  have e5 : IntKind.i64.wrap (sp : Int) = (sp : Int) := by rw [IntKind.wrap_i64]; omega
  have HN := Lib.hid hnew
  clear hck hok hnew hsp
  generalize sp % 17 = n at *
  go_enter Try.func4, Try.ntmps4
  go_wp2_with (go_at_call 14; refine HN.out.mono ?_; rintro e w1 ⟨X, rfl, hp, h0, hb⟩)
  go_ret
  exact ⟨X, rfl, hp, h0, hb⟩
/-- A lock's steps, one behind the other. -/
def it (p : Sd × Lk) : Sd × Lk := (stepM p.1 p.2, stepK p.1 p.2)
def itn (p : Sd × Lk) : Nat → Sd × Lk
  | 0 => p
  | n + 1 => it (itn p n)
theorem meth_step (a : Addr) (w : World) : (method 275 59 (.pointer (some a)) "Step").run Try.prog w = .ok (19, .pointer (some a)) w := by kernel_rfl
end Go.Proofs.Ytionigofajdkdaa.S13
namespace Go.Proofs.Ytionigofajdkdaa.S4
open Go.Proofs.Ytionigofajdkdaa Go.Proofs.Ytionigofajdkdaa.S11
open Go.RowKit

theorem eql161 (x y : Pk) (w : World) : (binOp .eql 75 (pkV x) (pkV y)).run Try.prog w = .ok (.bool (decide (x = y))) w := by
  obtain ⟨p, a, o, t⟩ := x; obtain ⟨p', a', o', t'⟩ := y
  simp [go_sem, Try.underlying75]
  by_cases h1 : p = p' <;> by_cases h2 : a = a' <;> by_cases h3 : o = o' <;> by_cases h4 : t = t' <;> simp [h1, h2, h3, h4, Int.ofNat_inj]
theorem goes_any (x : Pk) (now : Nat) (w : World) : Calls Try.prog 22 #[pkV x, .int .u64 (now : Int)] w fun e w' => e = .returned (.bool (goesB x now)) ∧ Below w.heap.size w w' := by
  have he := eql161 x pk0
  have HB : Hid (Below w.heap.size w (w.alloc (.cells #[.bool x.p, .bool x.a, .bool x.o, .int .u64 (x.t : Int)] 75))) := Lib.hid ((Below.refl _ _).alloc (Nat.le_refl _) _)
  obtain ⟨p, a, o, t⟩ := x
  by_cases h0 : (⟨p, a, o, t⟩ : Pk) = pk0
  · have hg : goesB ⟨p, a, o, t⟩ now = true := by simp [goesB, h0]
    rw [hg]
    rw [decide_eq_true h0] at he
    clear h0 hg
    have he' : ∀ W : World, (binOp .eql 75 (.agg #[.bool p, .bool a, .bool o, .int .u64 (t : Int)]) (.agg #[.bool false, .bool false, .bool false, .int .u64 0])).run Try.prog W = .ok (.bool true) W := he
    clear he
    go_enter Try.func22, Try.ntmps22
    go_wp2
    go_ret
    exact ⟨rfl, HB.out⟩
  · have hg : goesB ⟨p, a, o, t⟩ now = (p || (o && decide (t ≤ now))) := by simp [goesB, h0]
    rw [hg]
    rw [decide_eq_false h0] at he
    clear h0 hg
    have he' : ∀ W : World, (binOp .eql 75 (.agg #[.bool p, .bool a, .bool o, .int .u64 (t : Int)]) (.agg #[.bool false, .bool false, .bool false, .int .u64 0])).run Try.prog W = .ok (.bool false) W := he
    clear he
    cases p
    · cases o
      · go_enter Try.func22, Try.ntmps22
        go_wp2
        go_ret
        exact ⟨rfl, HB.out⟩
      · by_cases ht : t ≤ now
        · rw [decide_eq_true ht]
          go_enter Try.func22, Try.ntmps22
          go_wp2
          go_ret
          exact ⟨by simp [ht], HB.out⟩
        · rw [decide_eq_false ht]
          go_enter Try.func22, Try.ntmps22
          go_wp2
          go_ret
          exact ⟨by simp [ht], HB.out⟩
    · go_enter Try.func22, Try.ntmps22
      go_wp2
      go_ret
      exact ⟨rfl, HB.out⟩
theorem pgoes_yes {w : World} {B : Nat} {f : Nat → Pk} {n kd pk : Int} (h : PkAt w B f n kd pk) {i : Nat} (hi : i < 128) (now : Nat) :
    Calls Try.prog 10 #[Pt B, .int .i64 (i : Int), .int .u64 (now : Int)] w fun e w' => e = .returned (.bool (goesB (f i) now)) ∧ Below w.heap.size w w' := by
  have HQ := Lib.hid (phas_yes B i hi)
  have HG := Lib.hid (goes_any (f i) now)
  have h1 : (i : Int) < 128 := by omega
  have c0 := h.c0 i hi; have c1 := h.c1 i hi; have c2 := h.c2 i hi; have c3 := h.c3 i hi
  clear h
  generalize f i = x at *
  generalize goesB x now = b at *
  go_enter Try.func10, Try.ntmps10
  go_wp2_with (first
    | (go_at_call 21; refine (HQ.out _).mono ?_; rintro e w1 ⟨rfl, rfl⟩)
    | (go_at_call 22; refine (HG.out _).mono ?_; rintro e w2 ⟨rfl, hb⟩))
  go_ret
  exact ⟨rfl, hb⟩
theorem pgoes_no (B : Nat) (x : Int) (hx : notK x) (now : Int) (w : World) : Calls Try.prog 10 #[Pt B, .int .i64 x, .int .u64 now] w fun e w' => e = .returned (.bool false) ∧ w = w' := by
  have HQ := Lib.hid (phas_no B x hx)
  clear hx
  go_enter Try.func10, Try.ntmps10
  go_wp2_with (go_at_call 21; refine (HQ.out _).mono ?_; rintro e w1 ⟨rfl, rfl⟩)
  go_ret
  exact ⟨rfl, rfl⟩
end Go.Proofs.Ytionigofajdkdaa.S4
namespace Go.Proofs.Ytionigofajdkdaa.S14
open Go.Proofs.Ytionigofajdkdaa Go.Proofs.Ytionigofajdkdaa.S11 Go.Proofs.Ytionigofajdkdaa.S12 Go.Proofs.Ytionigofajdkdaa.S13
open Go.RowKit

section
variable {P : Program} {md : Region.Mode} {ops : Array Oper} {Q : Exit → Act → World → Prop} {S S' : World → Prop}
theorem wpAnyH_more' (h : ∀ w, S' w → S w) : ∀ (fuel : Nat) (listed : Array Bool) (a : Act) (w : World), wpAnyH P md ops Q S' fuel listed a w → wpAnyH P md ops Q S fuel listed a w
  | 0, _, _, _, hq => hq
  | fuel + 1, _, _, _, hq => ⟨hq.1, fun i hi => wpOp_mono (fun a' w' h' => ⟨h w' h'.1, wpAnyH_more' h fuel _ a' w' h'.2⟩) (hq.2 i hi)⟩
end
/-- A Free's steps, one behind the other. -/
def fit (p : Sd × Fr) : Sd × Fr := (fstepM p.1 p.2, fstepK p.1 p.2)
def fitn (p : Sd × Fr) : Nat → Sd × Fr
  | 0 => p
  | n + 1 => fit (fitn p n)
theorem fstepM_n (M : Sd) (K : Fr) : (fstepM M K).n ≤ M.n + 1 ∧ (fstepM M K).pn ≤ M.pn + 1 := by
  unfold fstepM
  split <;> (try split) <;> simp [Sd.acc, Sd.link, Sd.unpark, Sd.call] <;> omega
theorem fitn_n (p : Sd × Fr) : ∀ n, (fitn p n).1.n ≤ p.1.n + n ∧ (fitn p n).1.pn ≤ p.1.pn + n
  | 0 => ⟨Nat.le_refl _, Nat.le_refl _⟩
  | n + 1 => by
    have h1 := fitn_n p n
    have h2 := fstepM_n (fitn p n).1 (fitn p n).2
    show (fstepM _ _).n ≤ _ ∧ (fstepM _ _).pn ≤ _
    omega
theorem meth_free (a : Addr) (w : World) : (method 275 42 (.pointer (some a)) "Step").run Try.prog w = .ok (87, .pointer (some a)) w := by kernel_rfl
section
variable {w0 w w' : World} {base WB : Nat} {M : Sd} {r : List Part} {j B : Nat} {K : Fr} {X : Wm}
theorem Wf.pf (h : Wf w0 w base WB M r j B K X) : X.pf = M.pf := congrArg Sd.pf h.pg.xm
set_option maxRecDepth 100000 in
set_option maxHeartbeats 4000000 in
/-- A Free that runs alone. -/
theorem run_f (h : Wf w0 w base WB M r j B K X) (hk : FOk K) (n most : Nat) (hn0 : 0 < n) (hnm : n ≤ most) (hm : most ≤ 100) (hMn : M.n ≤ 900000000) (hMp : M.pn ≤ 900000000)
    (hpos : ∀ i, i < n → (fitn (M, K) i).2.ln ≠ 0) (hend : (fitn (M, K) n).2.ln = 0) :
    Calls Try.prog 8 #[Pw WB, .iface 42 (Pw B), .int .i64 (most : Int)] w fun e w' => e = .returned (.int .i64 (n : Int)) ∧ ∃ X', Wf w0 w' base WB (fitn (M, K) n).1 r j B (fitn (M, K) n).2 X' := by
  have hm1 := meth_free ⟨B, 0, none⟩
  have H := Lib.hid (And.intro h hk); have HP := Lib.hid (And.intro hpos hend); have HB := Lib.hid (And.intro hn0 (And.intro hnm (And.intro hm (And.intro hMn hMp))))
  clear h hk hpos hend hn0 hnm hm hMn hMp
  go_enter Try.func8, Try.ntmps8
  go_wp2_with fail
  go_loopg [7] n (fun q s7 wx => ∃ i : Nat, i < n ∧ q = n - i ∧ s7 = .int .i64 ((i + 1 : Nat) : Int) ∧ FOk (fitn (M, K) i).2 ∧ ∃ X, Wf w0 wx base WB (fitn (M, K) i).1 r j B (fitn (M, K) i).2 X)
  case atStart => exact ⟨0, HB.out.1, by omega, rfl, H.out.2, X, H.out.1⟩
  case round =>
    obtain ⟨i, hi, rfl, rfl, hok, X2, hw⟩ := hrel
    have hb := fitn_n (M, K) i
    have hst := step_f hw (hok.ok (by have := HB.out; have h1 : (M, K).1.n = M.n := rfl; omega) (by have := HB.out; have h1 : (M, K).1.pn = M.pn := rfl; omega)) hok.ln
    have hok2 := hok.step hw.look (fun k => pg_le hw.pg k)
    have hle : ((i + 1 : Nat) : Int) ≤ (most : Int) := by have := HB.out; omega
    have d1 : decide (((i + 1 : Nat) : Int) ≤ (most : Int)) = true := decide_eq_true hle
    have HOK2 := Lib.hid hok2; have HI := Lib.hid hi
    by_cases he : i + 1 = n
    · have e0 : (fstepK (fitn (M, K) i).1 (fitn (M, K) i).2).ln = 0 := by
        have := HP.out.2
        rw [← he] at this
        exact this
      rw [decide_eq_true e0] at hst
      have HST := Lib.hid hst; have HE := Lib.hid he
      clear hst hw hok hok2 hb e0 he hi
      go_wp2_with (go_at_call 87; refine HST.out.mono ?_; rintro e w6 ⟨rfl, hs⟩)
      go_ret
      obtain ⟨X3, h3⟩ := hs
      refine ⟨by rw [← HE.out]; simp, X3, ?_⟩
      rw [← HE.out]; exact h3
    · have e0 : ¬ (fstepK (fitn (M, K) i).1 (fitn (M, K) i).2).ln = 0 := HP.out.1 (i + 1) (by have := HI.out; omega)
      rw [decide_eq_false e0] at hst
      have HST := Lib.hid hst; have HE := Lib.hid he
      have hm9 : i + 1 ≤ 100 := by have := HB.out; omega
      clear hst hw hok hok2 hb e0 he hi
      go_wp2_with (go_at_call 87; refine HST.out.mono ?_; rintro e w6 ⟨rfl, hs⟩)
      go_roundg (n - (i + 1))
      case measure => have := HI.out; omega
      case rel => exact ⟨i + 1, by have := HI.out; have := HE.out; omega, rfl, by go_num, HOK2.out, hs⟩
end
/-- What the world is behind a thread that queues, without spins. -/
def qM (M : Sd) (t : Nat) : Sd := (((((M.acc 3 267 (S2.look M.L 267)).prep (2 * t + 1)).link (S5.pushS M.lk (some t) (hdO (S2.look M.L 267)))).acc 3 267 (S1.putU true (S1.bitB (S2.look M.L 267) 1) t)).park (2 * t + 1))
theorem bring267 (v : Nat) : S2.bring 267 v = v := by
  have e : S2.byteB 267 = false := by decide
  unfold S2.bring; rw [e]; rfl
theorem look267 (M : Sd) (k y : Nat) : S2.look (M.acc k 267 y).L 267 = y := by
  show S2.look (S2.putL M.L 267 (S2.bring 267 y)) 267 = y
  rw [S2.look_put_same, bring267]
/-- The lock's states. -/
def qp (M : Sd) (t : Nat) : Nat → Sd × Lk
  | 0 => (M, lk1 t 267)
  | 1 => (M.acc 3 267 (S2.look M.L 267), ⟨4, t, 267, S2.look M.L 267, M.sp⟩)
  | 2 => ((((M.acc 3 267 (S2.look M.L 267)).prep (2 * t + 1)).link (S5.pushS M.lk (some t) (hdO (S2.look M.L 267)))), ⟨5, t, 267, S2.look M.L 267, M.sp⟩)
  | _ => ((((M.acc 3 267 (S2.look M.L 267)).prep (2 * t + 1)).link (S5.pushS M.lk (some t) (hdO (S2.look M.L 267)))).acc 3 267 (S1.putU true (S1.bitB (S2.look M.L 267) 1) t), ⟨6, t, 267, S2.look M.L 267, M.sp⟩)
section
variable {M : Sd} {t : Nat}
theorem bit_ne {u : Nat} (hb : S1.bitB u 0 = true) : u ≠ 0 := by
  intro e; subst e; revert hb; decide
theorem qp_step (hs : M.sp = 0) (hb : S1.bitB (S2.look M.L 267) 0 = true) (i : Nat) (hi : i < 3) : stepM (qp M t i).1 (qp M t i).2 = (qp M t (i + 1)).1 ∧ stepK (qp M t i).1 (qp M t i).2 = (qp M t (i + 1)).2 := by
  obtain ⟨u, hu⟩ : ∃ u, u = S2.look M.L 267 := ⟨_, rfl⟩
  rcases (show i = 0 ∨ i = 1 ∨ i = 2 by omega) with rfl | rfl | rfl
  · have hne : ¬ S2.look M.L 267 = 0 := bit_ne hb
    refine ⟨?_, ?_⟩
    · show M.acc 3 267 (S2.casV (S2.look M.L 267) 0 1) = M.acc 3 267 (S2.look M.L 267)
      rw [S2.casV, if_neg hne]
    · show Lk.cas _ (S2.look M.L 267) 0 _ = _
      unfold Lk.cas
      rw [if_neg hne]
      unfold Lk.turn
      rw [if_neg (by rw [hb]; decide)]
      show (if S1.headN (S2.look M.L 267) = -1 then (if 0 < M.sp then _ else _) else _) = _
      rw [hs]
      split
      · rw [if_neg (by omega)]; rfl
      · rfl
  · exact ⟨rfl, rfl⟩
  · have hl : S2.look ((((M.acc 3 267 (S2.look M.L 267)).prep (2 * t + 1)).link (S5.pushS M.lk (some t) (hdO (S2.look M.L 267))))).L 267 = S2.look M.L 267 := look267 M 3 _
    refine ⟨?_, ?_⟩
    · show Sd.acc _ 3 267 (S2.casV (S2.look ((((M.acc 3 267 (S2.look M.L 267)).prep (2 * t + 1)).link (S5.pushS M.lk (some t) (hdO (S2.look M.L 267))))).L 267) (S2.look M.L 267) (S1.putU (S1.bitB (S2.look M.L 267) 0) (S1.bitB (S2.look M.L 267) 1) t)) = _
      rw [hl, S2.casV, if_pos rfl, hb]; rfl
    · show Lk.cas _ (S2.look ((((M.acc 3 267 (S2.look M.L 267)).prep (2 * t + 1)).link (S5.pushS M.lk (some t) (hdO (S2.look M.L 267))))).L 267) (S2.look M.L 267) _ = _
      rw [hl]
      unfold Lk.cas
      rw [if_pos rfl]; rfl
theorem qp_ln (i : Nat) (hi : i ≤ 3) : (qp M t i).2.ln ≠ 0 ∧ (i < 3 → (qp M t i).2.ln ≠ 6) ∧ (i = 3 → (qp M t i).2.ln = 6) ∧ (qp M t i).2.ln ≤ 6 := by
  rcases (show i = 0 ∨ i = 1 ∨ i = 2 ∨ i = 3 by omega) with rfl | rfl | rfl | rfl
  · exact ⟨by show 1 ≠ 0; omega, fun _ => by show 1 ≠ 6; omega, fun h => by omega, by show 1 ≤ 6; omega⟩
  · exact ⟨by show 4 ≠ 0; omega, fun _ => by show 4 ≠ 6; omega, fun h => by omega, by show 4 ≤ 6; omega⟩
  · exact ⟨by show 5 ≠ 0; omega, fun _ => by show 5 ≠ 6; omega, fun h => by omega, by show 5 ≤ 6; omega⟩
  · exact ⟨by show 6 ≠ 0; omega, fun h => by omega, fun _ => rfl, by show 6 ≤ 6; omega⟩
theorem qp_ok (ht : t < 64) (hs : M.sp = 0) (hl : S2.look M.L 267 < 18446744073709551616) (hn : M.n ≤ 900000000) (hp : M.pn ≤ 900000000) (i : Nat) (hi : i ≤ 3) : LkOk (qp M t i).1 (qp M t i).2 := by
  have hs0 : (0 : Int) ≤ M.sp ∧ M.sp ≤ 16 := by omega
  rcases (show i = 0 ∨ i = 1 ∨ i = 2 ∨ i = 3 by omega) with rfl | rfl | rfl | rfl
  · exact ⟨ht, by show 267 < _; omega, by show 0 < _; omega, ⟨by show (0 : Int) ≤ 0; omega, by show (0 : Int) ≤ 16; omega⟩, hs0, by show M.n ≤ _; omega, by show M.pn ≤ _; omega⟩
  · exact ⟨ht, by show 267 < _; omega, hl, hs0, hs0, by show M.n + 1 ≤ _; omega, by show M.pn ≤ _; omega⟩
  · exact ⟨ht, by show 267 < _; omega, hl, hs0, hs0, by show M.n + 1 ≤ _; omega, by show M.pn + 1 ≤ _; omega⟩
  · exact ⟨ht, by show 267 < _; omega, hl, hs0, hs0, by show M.n + 1 + 1 ≤ _; omega, by show M.pn + 1 ≤ _; omega⟩
theorem qp_last : stepM (qp M t 3).1 (qp M t 3).2 = qM M t ∧ stepK (qp M t 3).1 (qp M t 3).2 = (qp M t 3).2 := by
  refine ⟨rfl, ?_⟩
  have hp : ((qp M t 3).1.pf (2 * t + 1)).p = false := by
    show (S4.updP M.pf (2 * t + 1) S4.pk0 (2 * t + 1)).p = false
    unfold S4.updP
    rw [if_pos rfl]; rfl
  show (if ((qp M t 3).1.pf (2 * t + 1)).p then _ else _) = _
  rw [hp]; rfl
theorem qM_asleep : ((qM M t).pf (2 * t + 1)).a = true := by
  have hp : (S4.updP M.pf (2 * t + 1) S4.pk0 (2 * t + 1)) = S4.pk0 := by unfold S4.updP; rw [if_pos rfl]
  show (S4.updP (S4.updP M.pf (2 * t + 1) S4.pk0) (2 * t + 1) (S4.parkK (S4.updP M.pf (2 * t + 1) S4.pk0 (2 * t + 1))) (2 * t + 1)).a = true
  rw [hp]
  unfold S4.updP
  rw [if_pos rfl]; rfl
end
section
variable {w0 w w' : World} {base WB : Nat} {M : Sd} {r : List Part} {X : Wm}
theorem pg_drop {q : Part} (h : Pg w0 w base WB M (r ++ [q]) X) : Pg w0 w base WB M r X := by
  have hp := h.ps
  rw [← List.append_assoc] at hp
  exact ⟨Parts.left hp, h.wB, h.xm, h.bl⟩
set_option maxRecDepth 100000 in
set_option maxHeartbeats 4000000 in
/-- A thread queues, and is asleep. -/
theorem queued_f (h : Pg w0 w base WB M r X) {t : Nat} (ht : t < 64) (hs : M.sp = 0) (hb : S1.bitB (S2.look M.L 267) 0 = true) (hn : M.n ≤ 900000000) (hp : M.pn ≤ 900000000) :
    Calls Try.prog 7 #[Pw WB, .int .i64 (t : Int)] w fun e w' => e = .returned (.bool true) ∧ ∃ X', Pg w0 w' base WB (qM M t) r X' := by
  have hl : S2.look M.L 267 < 18446744073709551616 := by
    have := S2.look_lt h.pw.cells.good 267
    rwa [show X.L = M.L from congrArg Sd.L h.xm] at this
  have hnl : Calls Try.prog 17 #[.int .i64 (t : Int), .int .u32 267] w fun e w' => e = .returned (Pw w.heap.size) ∧ w' = w.alloc (.cells (lk1 t 267).cs 103) := by
    have := new_lock (t : Int) 267 w
    rwa [show newK (t : Int) 267 = lk1 t 267 by unfold newK; rw [if_pos ⟨by omega, by omega⟩]; rfl] at this
  have HNL := Lib.hid hnl
  have h1 := Pg.lock h (lk1 t 267)
  have HLN := Lib.hid (fun i (hi : i ≤ 3) => qp_ln (M := M) (t := t) i hi)
  have HOK := Lib.hid (fun i (hi : i ≤ 3) => qp_ok ht hs hl hn hp i hi)
  have HSP := Lib.hid (fun i (hi : i < 3) => qp_step (M := M) (t := t) hs hb i hi)
  have H1 := Lib.hid h1
  have HWD := Lib.hid (fun W => word_any t ht W)
  have HT := Lib.hid ht
  clear h hl hnl h1 hs hb hn hp ht
  go_enter Try.func7, Try.ntmps7
  go_upto_region 2 with (go_at_call 17; refine HNL.out.mono ?_; rintro e w1 ⟨rfl, rfl⟩)
  generalize w.alloc (.cells (lk1 t 267).cs 103) = w1 at *
  generalize w.heap.size = B at *
  clear HNL
  go_wp2_with fail
  go_loopg [6] 3 (fun q s6 wx => ∃ i : Nat, i ≤ 3 ∧ q = 3 - i ∧ s6 = .int .i64 (i : Int) ∧ ∃ X, Wl w0 wx base WB (qp M t i).1 (r ++ [lockP B (lk1 t 267)]) r.length B (qp M t i).2 X)
  case atStart => exact ⟨0, by omega, rfl, rfl, X, H1.out⟩
  case round =>
    obtain ⟨i, hi, rfl, rfl, X2, hw⟩ := hrel
    have hln := HLN.out i hi
    have hwt := waits_any hw.at
    have d100 : (i : Int) < 100 := by omega
    by_cases hi3 : i < 3
    · rw [decide_eq_false (hln.2.1 hi3)] at hwt
      have hst := step_any hw (HOK.out i hi) hln.2.2.2
      have hsp := HSP.out i hi3
      unfold S13.Stepped at hst
      rw [hsp.1, hsp.2, decide_eq_false (HLN.out (i + 1) (by omega)).1] at hst
      have HWT := Lib.hid hwt; have HST := Lib.hid hst; have HI := Lib.hid hi3
      clear hwt hst hsp hw hln hi hi3
      go_wp2_with (first
        | (go_at_call 18; refine HWT.out.mono ?_; rintro e w2 ⟨rfl, rfl⟩)
        | (go_at_call 19; refine HST.out.mono ?_; rintro e w3 ⟨rfl, hs⟩))
      go_roundg (3 - (i + 1))
      case measure => have := HI.out; omega
      case rel => exact ⟨i + 1, by have := HI.out; omega, rfl, by go_num, hs⟩
    · obtain rfl : i = 3 := by omega
      rw [decide_eq_true (hln.2.2.1 rfl)] at hwt
      have hst := step_any (hw.new (Below.refl _ _).drew) (HOK.out 3 hi) hln.2.2.2
      unfold S13.Stepped at hst
      rw [qp_last.1, qp_last.2, decide_eq_false hln.1] at hst
      have hwt2 : ∀ W X4, Wl w0 W base WB (qM M t) (r ++ [lockP B (lk1 t 267)]) r.length B (qp M t 3).2 X4 → Calls Try.prog 18 #[Pw B] W fun e w' => e = .returned (.bool true) ∧ W = w' := fun W X4 h4 => by
        have := waits_any h4.at
        rwa [decide_eq_true ((HLN.out 3 (by omega)).2.2.1 rfl)] at this
      have hsl : ∀ W X4, Wl w0 W base WB (qM M t) (r ++ [lockP B (lk1 t 267)]) r.length B (qp M t 3).2 X4 → Calls Try.prog 20 #[Pw X4.pB, .int .i64 ((2 * t + 1 : Nat) : Int)] W fun e w' => e = .returned (.bool true) ∧ W = w' := fun W X4 h4 => by
        have := S4.asleep_yes h4.pg.pw.permits (i := 2 * t + 1) (by have := HT.out; omega)
        rwa [show X4.pf = (qM M t).pf from congrArg Sd.pf h4.pg.xm, qM_asleep] at this
      have HWT0 := Lib.hid hwt; have HST := Lib.hid hst; have HWT := Lib.hid hwt2; have HSL := Lib.hid hsl
      clear hwt hwt2 hsl hst hw hln hi hi3 HSP HOK HLN
      go_upto_region 6 with (go_at_call 18; refine HWT0.out.mono ?_; rintro e w2 ⟨rfl, rfl⟩)
      refine wp_region_held_drew (S := fun _ => True) (by kernel_rfl) ?_ (fun hHeld => ?_)
      · trivial
      refine wpAnyH_take (i := 0) (oi := ({ dst := some 21, op := Op.move (Operand.tmp 5), type := 59, pos := "outright.go:39", after := #[], guard := none } : Oper)) (v := ?vqm1) rfl (by kernel_rfl) (by kernel_rfl) (by kernel_rfl) (fun _ _ _ h => h) (Or.inl ⟨by rfl, fun w hSw => ?hyqm1⟩) (by assumption) ?rqm1
      case hyqm1 => (try dsimp only at hSw); go_simp; (try with_reducible rfl)
      (try simp only [Act.put, List.setIfInBounds_toArray, List.set_cons_zero, List.set_cons_succ])
      refine wpAnyH_take (i := 1) (oi := ({ dst := some 22, op := Op.move (Operand.tmp 0), type := 23, pos := "outright.go:39", after := #[], guard := none } : Oper)) (v := ?vqm2) rfl (by kernel_rfl) (by kernel_rfl) (by kernel_rfl) (fun _ _ _ h => h) (Or.inl ⟨by rfl, fun w hSw => ?hyqm2⟩) (by assumption) ?rqm2
      case hyqm2 => (try dsimp only at hSw); go_simp; (try with_reducible rfl)
      (try simp only [Act.put, List.setIfInBounds_toArray, List.set_cons_zero, List.set_cons_succ])
      refine wpAnyH_ready (rs := [2]) (by kernel_rfl) (by simp) ?_
      refine AllReadyH.cons (o := ({ dst := some 23, op := Op.call { callee := Callee.value (Operand.func 19), args := #[Operand.tmp 21, Operand.tmp 22], argTypes := #[59, 23] }, type := 4, pos := "outright.go:39", after := #[{ on := 0, ground := Ground.data }, { on := 1, ground := Ground.data }], guard := none } : Oper)) rfl (fun Kq hKq => ?_) AllReadyH.nil
      go_simp
      (refine HST.out.mono ?_; rintro e w4 ⟨rfl, X4, h4⟩; have H4 := Lib.hid h4; have HX4 := Lib.hid h4.pg.c.2.1; clear h4)
      refine hKq.out _ _ ?_ (fun hHeld => ?_)
      · trivial
      clear hKq Kq
      (try simp only [Act.put, List.setIfInBounds_toArray, List.set_cons_zero, List.set_cons_succ])
      refine wpAnyH_more' (S' := fun w' => w'.cell? ⟨WB, 2, none⟩ = some (Pw X4.pB)) (fun _ _ => trivial) _ _ _ _ ?_
      have hHeld := HX4.out
      refine wpAnyH_take (i := 3) (oi := ({ dst := some 24, op := Op.unOp UnOp.not 4 (Operand.tmp 23), type := 4, pos := "outright.go:39", after := #[{ on := 2, ground := Ground.data }], guard := none } : Oper)) (v := ?vqm3) rfl (by kernel_rfl) (by kernel_rfl) (by kernel_rfl) (fun _ _ _ h => h) (Or.inl ⟨by rfl, fun w hSw => ?hyqm3⟩) (by assumption) ?rqm3
      case hyqm3 => (try dsimp only at hSw); go_simp; (try with_reducible rfl)
      (try simp only [Act.put, List.setIfInBounds_toArray, List.set_cons_zero, List.set_cons_succ])
      refine wpAnyH_take (i := 4) (oi := ({ dst := some 25, op := Op.move (Operand.tmp 24), type := 4, pos := "outright.go:39", after := #[{ on := 3, ground := Ground.data }, { on := 2, ground := Ground.chain }], guard := none } : Oper)) (v := ?vqm4) rfl (by kernel_rfl) (by kernel_rfl) (by kernel_rfl) (fun _ _ _ h => h) (Or.inl ⟨by rfl, fun w hSw => ?hyqm4⟩) (by assumption) ?rqm4
      case hyqm4 => (try dsimp only at hSw); go_simp; (try with_reducible rfl)
      (try simp only [Act.put, List.setIfInBounds_toArray, List.set_cons_zero, List.set_cons_succ])
      refine wpAnyH_take (i := 5) (oi := ({ dst := some 26, op := Op.move (Operand.tmp 5), type := 59, pos := "outright.go:39", after := #[{ on := 4, ground := Ground.guard }], guard := some (4, true) } : Oper)) (v := ?vqm5) rfl (by kernel_rfl) (by kernel_rfl) (by kernel_rfl) (fun _ _ _ h => h) (Or.inl ⟨by rfl, fun w hSw => ?hyqm5⟩) (by assumption) ?rqm5
      case hyqm5 => (try dsimp only at hSw); go_simp; (try with_reducible rfl)
      (try simp only [Act.put, List.setIfInBounds_toArray, List.set_cons_zero, List.set_cons_succ])
      refine wpAnyH_ready (rs := [6]) (by kernel_rfl) (by simp) ?_
      refine AllReadyH.cons (o := ({ dst := some 27, op := Op.call { callee := Callee.value (Operand.func 18), args := #[Operand.tmp 26], argTypes := #[59] }, type := 4, pos := "outright.go:39", after := #[{ on := 5, ground := Ground.data }, { on := 4, ground := Ground.chain }, { on := 4, ground := Ground.guard }], guard := some (4, true) } : Oper)) rfl (fun Kq hKq => ?_) AllReadyH.nil
      go_simp
      (refine (HWT.out w4 X4 H4.out).mono ?_; rintro e w8 ⟨rfl, rfl⟩)
      refine hKq.out _ _ ?_ (fun hHeld => ?_)
      · exact HX4.out
      clear hKq Kq
      (try simp only [Act.put, List.setIfInBounds_toArray, List.set_cons_zero, List.set_cons_succ])
      refine wpAnyH_take (i := 7) (oi := ({ dst := some 28, op := Op.pick (Operand.tmp 25) (Operand.tmp 27) (Operand.const (Value.bool false)), type := 4, pos := "outright.go:39", after := #[{ on := 4, ground := Ground.data }, { on := 6, ground := Ground.data }], guard := none } : Oper)) (v := ?vqm6) rfl (by kernel_rfl) (by kernel_rfl) (by kernel_rfl) (fun _ _ _ h => h) (Or.inl ⟨by rfl, fun w hSw => ?hyqm6⟩) (by assumption) ?rqm6
      case hyqm6 => (try dsimp only at hSw); go_simp; (try with_reducible rfl)
      (try simp only [Act.put, List.setIfInBounds_toArray, List.set_cons_zero, List.set_cons_succ])
      refine wpAnyH_take (i := 8) (oi := ({ dst := some 29, op := Op.move (Operand.tmp 28), type := 4, pos := "outright.go:39", after := #[{ on := 7, ground := Ground.data }, { on := 6, ground := Ground.chain }], guard := none } : Oper)) (v := ?vqm7) rfl (by kernel_rfl) (by kernel_rfl) (by kernel_rfl) (fun _ _ _ h => h) (Or.inl ⟨by rfl, fun w hSw => ?hyqm7⟩) (by assumption) ?rqm7
      case hyqm7 => (try dsimp only at hSw); go_simp; (try with_reducible rfl)
      (try simp only [Act.put, List.setIfInBounds_toArray, List.set_cons_zero, List.set_cons_succ])
      refine wpAnyH_take (i := 9) (oi := ({ dst := some 30, op := Op.move (Operand.tmp 0), type := 23, pos := "outright.go:39", after := #[{ on := 8, ground := Ground.guard }], guard := some (8, true) } : Oper)) (v := ?vqm8) rfl (by kernel_rfl) (by kernel_rfl) (by kernel_rfl) (fun _ _ _ h => h) (Or.inl ⟨by rfl, fun w hSw => ?hyqm8⟩) (by assumption) ?rqm8
      case hyqm8 => (try dsimp only at hSw); go_simp; (try with_reducible rfl)
      (try simp only [Act.put, List.setIfInBounds_toArray, List.set_cons_zero, List.set_cons_succ])
      refine wpAnyH_take (i := 10) (oi := ({ dst := some 31, op := Op.nilCheck (Operand.tmp 30), type := 0, pos := "outright.go:39", after := #[{ on := 9, ground := Ground.data }, { on := 8, ground := Ground.guard }], guard := some (8, true) } : Oper)) (v := ?vqm9) rfl (by kernel_rfl) (by kernel_rfl) (by kernel_rfl) (fun _ _ _ h => h) (Or.inl ⟨by rfl, fun w hSw => ?hyqm9⟩) (by assumption) ?rqm9
      case hyqm9 => (try dsimp only at hSw); go_simp; (try with_reducible rfl)
      (try simp only [Act.put, List.setIfInBounds_toArray, List.set_cons_zero, List.set_cons_succ])
      refine wpAnyH_take (i := 11) (oi := ({ dst := some 32, op := Op.fieldAddr 35 (Operand.tmp 31) 2, type := 0, pos := "outright.go:39", after := #[{ on := 10, ground := Ground.data }, { on := 8, ground := Ground.guard }], guard := some (8, true) } : Oper)) (v := ?vqm10) rfl (by kernel_rfl) (by kernel_rfl) (by kernel_rfl) (fun _ _ _ h => h) (Or.inl ⟨by rfl, fun w hSw => ?hyqm10⟩) (by assumption) ?rqm10
      case hyqm10 => (try dsimp only at hSw); go_simp; (try with_reducible rfl)
      (try simp only [Act.put, List.setIfInBounds_toArray, List.set_cons_zero, List.set_cons_succ])
      refine wpAnyH_take (i := 12) (oi := ({ dst := some 33, op := Op.load 29 (Operand.tmp 32), type := 29, pos := "outright.go:39", after := #[{ on := 11, ground := Ground.data }, { on := 8, ground := Ground.guard }], guard := some (8, true) } : Oper)) (v := ?vqm11) rfl (by kernel_rfl) (by kernel_rfl) (by kernel_rfl) (fun _ _ _ h => h) (Or.inl ⟨by rfl, fun w hSw => ?hyqm11⟩) (by assumption) ?rqm11
      case hyqm11 => (try dsimp only at hSw); go_simp; (try with_reducible rfl)
      (try simp only [Act.put, List.setIfInBounds_toArray, List.set_cons_zero, List.set_cons_succ])
      refine wpAnyH_take (i := 13) (oi := ({ dst := some 34, op := Op.move (Operand.tmp 1), type := 3, pos := "outright.go:39", after := #[{ on := 8, ground := Ground.guard }], guard := some (8, true) } : Oper)) (v := ?vqm12) rfl (by kernel_rfl) (by kernel_rfl) (by kernel_rfl) (fun _ _ _ h => h) (Or.inl ⟨by rfl, fun w hSw => ?hyqm12⟩) (by assumption) ?rqm12
      case hyqm12 => (try dsimp only at hSw); go_simp; (try with_reducible rfl)
      (try simp only [Act.put, List.setIfInBounds_toArray, List.set_cons_zero, List.set_cons_succ])
      refine wpAnyH_ready (rs := [14]) (by kernel_rfl) (by simp) ?_
      refine AllReadyH.cons (o := ({ dst := some 35, op := Op.call { callee := Callee.value (Operand.func 11), args := #[Operand.tmp 34], argTypes := #[3] }, type := 3, pos := "outright.go:39", after := #[{ on := 13, ground := Ground.data }, { on := 8, ground := Ground.chain }, { on := 8, ground := Ground.guard }], guard := some (8, true) } : Oper)) rfl (fun Kq hKq => ?_) AllReadyH.nil
      go_simp
      (refine (HWD.out _).mono ?_; rintro e w8 ⟨rfl, rfl⟩)
      refine hKq.out _ _ ?_ (fun hHeld => ?_)
      · exact HX4.out
      clear hKq Kq
      (try simp only [Act.put, List.setIfInBounds_toArray, List.set_cons_zero, List.set_cons_succ])
      refine wpAnyH_ready (rs := [15]) (by kernel_rfl) (by simp) ?_
      refine AllReadyH.cons (o := ({ dst := some 36, op := Op.call { callee := Callee.value (Operand.func 20), args := #[Operand.tmp 33, Operand.tmp 35], argTypes := #[29, 3] }, type := 4, pos := "outright.go:39", after := #[{ on := 12, ground := Ground.data }, { on := 14, ground := Ground.data }, { on := 14, ground := Ground.chain }, { on := 8, ground := Ground.guard }], guard := some (8, true) } : Oper)) rfl (fun Kq hKq => ?_) AllReadyH.nil
      go_simp
      (refine (HSL.out w4 X4 H4.out).mono ?_; rintro e w8 ⟨rfl, rfl⟩)
      refine hKq.out _ _ ?_ (fun hHeld => ?_)
      · exact HX4.out
      clear hKq Kq
      (try simp only [Act.put, List.setIfInBounds_toArray, List.set_cons_zero, List.set_cons_succ])
      refine wpAnyH_take (i := 16) (oi := ({ dst := some 37, op := Op.pick (Operand.tmp 29) (Operand.tmp 36) (Operand.const (Value.bool false)), type := 4, pos := "outright.go:39", after := #[{ on := 8, ground := Ground.data }, { on := 15, ground := Ground.data }], guard := none } : Oper)) (v := ?vqm13) rfl (by kernel_rfl) (by kernel_rfl) (by kernel_rfl) (fun _ _ _ h => h) (Or.inl ⟨by rfl, fun w hSw => ?hyqm13⟩) (by assumption) ?rqm13
      case hyqm13 => (try dsimp only at hSw); go_simp; (try with_reducible rfl)
      (try simp only [Act.put, List.setIfInBounds_toArray, List.set_cons_zero, List.set_cons_succ])
      refine wpAnyH_take (i := 17) (oi := ({ dst := some 4, op := Op.assign (Operand.tmp 37), type := 4, pos := "outright.go:39", after := #[{ on := 16, ground := Ground.data }, { on := 15, ground := Ground.chain }, { on := 0, ground := Ground.phase }, { on := 1, ground := Ground.phase }, { on := 2, ground := Ground.phase }, { on := 3, ground := Ground.phase }, { on := 4, ground := Ground.phase }, { on := 5, ground := Ground.phase }, { on := 6, ground := Ground.phase }, { on := 7, ground := Ground.phase }, { on := 8, ground := Ground.phase }, { on := 9, ground := Ground.phase }, { on := 10, ground := Ground.phase }, { on := 11, ground := Ground.phase }, { on := 12, ground := Ground.phase }, { on := 13, ground := Ground.phase }, { on := 14, ground := Ground.phase }, { on := 15, ground := Ground.phase }, { on := 16, ground := Ground.phase }], guard := none } : Oper)) (v := ?vqm14) rfl (by kernel_rfl) (by kernel_rfl) (by kernel_rfl) (fun _ _ _ h => h) (Or.inl ⟨by rfl, fun w hSw => ?hyqm14⟩) (by assumption) ?rqm14
      case hyqm14 => (try dsimp only at hSw); go_simp; (try with_reducible rfl)
      (try simp only [Act.put, List.setIfInBounds_toArray, List.set_cons_zero, List.set_cons_succ])
      refine wpAnyH_done (by kernel_rfl) ?_ _
      go_wp2_with fail
      go_ret
      refine ⟨rfl, X4, pg_drop (q := lockP B (qp M t 3).2) ?_⟩
      have h4 := H4.out.pg
      rwa [List.set_append_right _ _ (Nat.le_refl _), Nat.sub_self] at h4
/-- The examples' states. -/
def xA : Sd := (sdN 0 5).acc 2 267 1
def xB : Sd × Fr := (xA, fr0 267)
def xC : Sd := (fitn xB 1).1.acc 2 267 1
def xD : Sd × Fr := (qM xC 5, fr0 267)
theorem x1 : (fitn xB 1).2.ln = 0 ∧ S2.look (fitn xB 1).1.L 267 = 0 := ⟨by kernel_rfl, by kernel_rfl⟩
theorem x2 : xC.sp = 0 ∧ S1.bitB (S2.look xC.L 267) 0 = true ∧ xC.n ≤ 900000000 ∧ xC.pn ≤ 900000000 := ⟨rfl, by kernel_rfl, by show 3 ≤ _; omega, by show 0 ≤ _; omega⟩
theorem x3 : (fitn xD 0).2.ln = 1 ∧ (fitn xD 1).2.ln = 2 ∧ (fitn xD 2).2.ln = 3 ∧ (fitn xD 3).2.ln = 5 ∧ (fitn xD 4).2.ln = 7 ∧ (fitn xD 5).2.ln = 0 := ⟨by kernel_rfl, by kernel_rfl, by kernel_rfl, by kernel_rfl, by kernel_rfl, by kernel_rfl⟩
theorem x4 : S2.look (fitn xD 5).1.L 267 = 0 ∧ ((fitn xD 5).1.pf 11).p = true := ⟨by kernel_rfl, by kernel_rfl⟩
theorem x5 : xD.1.n ≤ 900000000 ∧ xD.1.pn ≤ 900000000 := ⟨by show 5 ≤ _; omega, by show 2 ≤ _; omega⟩
theorem Pg.freeAt (h : Pg w0 w base WB M r X) (K : Fr) : Wf w0 (w.alloc (.cells K.cs 71)) base WB M (r ++ [freeP w.heap.size K]) r.length w.heap.size K X := by
  refine ⟨?_, by rw [List.length_append]; simp⟩
  rw [List.set_append_right _ _ (Nat.le_refl _), Nat.sub_self]
  exact Pg.add h _
theorem Wf.gone {j' B : Nat} {K K' : Fr} (h : Wf w0 w base WB M (r ++ [freeP B K']) r.length B K X) : Pg w0 w base WB M r X := by
  have h4 := h.pg
  rw [List.set_append_right _ _ (Nat.le_refl _), Nat.sub_self] at h4
  exact pg_drop h4
theorem pg_store (h : Pg w0 w base WB M r X) (hn : M.n ≤ 1000000000) : Calls Try.prog 6 #[Pw X.cB, .int .u32 267, .int .u64 1] w fun e w' => (∃ v, e = .returned v) ∧ ∃ X', Pg w0 w' base WB (M.acc 2 267 1) r X' := by
  have h1 := h.store (a := 267) (v := 1) (by omega) (by omega) hn
  exact h1.mono (fun e w' hh => ⟨⟨_, hh.1⟩, by obtain ⟨_, X', h2, _⟩ := hh; exact ⟨X', h2⟩⟩)
set_option maxRecDepth 100000 in
set_option maxHeartbeats 4000000 in
/-- The chapter's examples. -/
theorem lives14 (w : World) : Calls Try.prog 5 #[] w fun e w' => e = .returned (.bool true) ∧ Below w.heap.size w w' := by
  have HW : Hid (Calls Try.prog 4 #[.int .u8 0] w fun e w' => ∃ X, e = .returned (Pw X.wB) ∧ PW w' w.heap.size X ∧ At0 X 0 5 [] ∧ Below w.heap.size w w') := Lib.hid (world_any 0 (by omega) w)
  have HNF : Hid (∀ W, Calls Try.prog 9 #[.int .u32 267] W fun e w' => e = .returned (Pw W.heap.size) ∧ w' = W.alloc (.cells (fr0 267).cs 71)) := Lib.hid (fun W => new_free 267 W)
  go_enter Try.func5, Try.ntmps5
  go_upto_region 4 with (go_at_call 4; refine HW.out.mono ?_; rintro e w1 ⟨X, rfl, hp, h0, hb⟩)
  have hpg := pg_of hp hb
  rw [at0_sd h0] at hpg
  obtain ⟨WB, hWB⟩ : ∃ x, x = X.wB := ⟨_, rfl⟩
  rw [← hWB] at hpg ⊢
  have x0 := hpg.c.1
  have HST := Lib.hid (pg_store hpg (by show 0 ≤ _; omega))
  clear hpg hp h0 hb hWB HW
  go_upto_region 5 with (go_at_call 6; refine HST.out.mono ?_; rintro e w2 ⟨⟨sv, rfl⟩, X2, h2⟩)
  have hf2 := Pg.freeAt h2 (fr0 267)
  have hr2 : Calls Try.prog 8 #[Pw WB, .iface 42 (Pw w2.heap.size), .int .i64 9] (w2.alloc (.cells (fr0 267).cs 71)) fun e w' => e = .returned (.int .i64 1) ∧ ∃ X', Wf w w' w.heap.size WB (fitn xB 1).1 ([] ++ [freeP w2.heap.size (fr0 267)]) ([] : List Part).length w2.heap.size (fitn xB 1).2 X' :=
    run_f hf2 (fok_new (by omega)) 1 9 (by omega) (by omega) (by omega) (by show 1 ≤ _; omega) (by show 0 ≤ _; omega) (fun i hi => by
      obtain rfl : i = 0 := by omega
      show 1 ≠ 0
      omega) x1.1
  have HR2 := Lib.hid hr2
  clear h2 x0 HST hf2 hr2
  go_upto_region 6 with (first
    | (go_at_call 9; refine (HNF.out _).mono ?_; rintro e w3 ⟨rfl, rfl⟩)
    | (go_at_call 8; refine HR2.out.mono ?_; rintro e w4 ⟨rfl, X4, h4⟩))
  have hg4 : Pg w w4 w.heap.size WB (fitn xB 1).1 [] X4 := Wf.gone (j' := 0) h4
  have y0 := hg4.c.1
  have HPK0 : Hid (Calls Try.prog 13 #[Pw X4.cB, .int .u32 267] w4 fun e w' => e = .returned (.int .u64 0) ∧ w4 = w') := Lib.hid (by
    have := S2.peek_any _ X4.cB X4.cM X4.L X4.n X4.k X4.a X4.was X4.is 267 hg4.pw.cells (by omega)
    rw [show X4.L = (fitn xB 1).1.L from congrArg Sd.L hg4.xm, x1.2] at this
    exact this)
  have HG4 := Lib.hid hg4
  clear h4 hg4 HR2
  go_upto_region 7 with (go_at_call 13; refine HPK0.out.mono ?_; rintro e w5 ⟨rfl, rfl⟩)
  have HST2 := Lib.hid (pg_store HG4.out (by show 2 ≤ _; omega))
  clear HPK0
  go_upto_region 8 with (go_at_call 6; refine HST2.out.mono ?_; rintro e w5 ⟨⟨sv2, rfl⟩, X5, h5⟩)
  have HQ : Hid (Calls Try.prog 7 #[Pw WB, .int .i64 5] w5 fun e w' => e = .returned (.bool true) ∧ ∃ X', Pg w w' w.heap.size WB (qM xC 5) [] X') := Lib.hid (queued_f (t := 5) (M := xC) h5 (by omega) x2.1 x2.2.1 x2.2.2.1 x2.2.2.2)
  clear h5 HST2 HG4 y0
  go_upto_region 10 with (go_at_call 7; refine HQ.out.mono ?_; rintro e w6 ⟨rfl, X6, h6⟩)
  have hf6 := Pg.freeAt h6 (fr0 267)
  have hr6 : Calls Try.prog 8 #[Pw WB, .iface 42 (Pw w6.heap.size), .int .i64 9] (w6.alloc (.cells (fr0 267).cs 71)) fun e w' => e = .returned (.int .i64 5) ∧ ∃ X', Wf w w' w.heap.size WB (fitn xD 5).1 ([] ++ [freeP w6.heap.size (fr0 267)]) ([] : List Part).length w6.heap.size (fitn xD 5).2 X' :=
    run_f hf6 (fok_new (by omega)) 5 9 (by omega) (by omega) (by omega) x5.1 x5.2 (fun i hi => by
      have h3 := x3
      rcases (show i = 0 ∨ i = 1 ∨ i = 2 ∨ i = 3 ∨ i = 4 by omega) with rfl | rfl | rfl | rfl | rfl
      · rw [show (fitn (qM xC 5, fr0 267) 0).2.ln = 1 from h3.1]; omega
      · rw [show (fitn (qM xC 5, fr0 267) 1).2.ln = 2 from h3.2.1]; omega
      · rw [show (fitn (qM xC 5, fr0 267) 2).2.ln = 3 from h3.2.2.1]; omega
      · rw [show (fitn (qM xC 5, fr0 267) 3).2.ln = 5 from h3.2.2.2.1]; omega
      · rw [show (fitn (qM xC 5, fr0 267) 4).2.ln = 7 from h3.2.2.2.2.1]; omega) x3.2.2.2.2.2
  have HR6 := Lib.hid hr6
  clear h6 HQ hf6 hr6
  go_upto_region 11 with (first
    | (go_at_call 9; refine (HNF.out _).mono ?_; rintro e w7 ⟨rfl, rfl⟩)
    | (go_at_call 8; refine HR6.out.mono ?_; rintro e w8 ⟨rfl, X8, h8⟩))
  have hg8 : Pg w w8 w.heap.size WB (fitn xD 5).1 [] X8 := Wf.gone (j' := 0) h8
  have hgd := hg8.new (Below.refl _ _).drew
  have HPK : Hid (Calls Try.prog 13 #[Pw X8.cB, .int .u32 267] w8.drew fun e w' => e = .returned (.int .u64 0) ∧ w8.drew = w') := Lib.hid (by
    have := S2.peek_any _ X8.cB X8.cM X8.L X8.n X8.k X8.a X8.was X8.is 267 hgd.pw.cells (by omega)
    rw [show X8.L = (fitn xD 5).1.L from congrArg Sd.L hgd.xm, x4.1] at this
    exact this)
  have HWD : Hid (∀ W, Calls Try.prog 11 #[.int .i64 5] W fun e w' => e = .returned (.int .i64 11) ∧ W = w') := Lib.hid (fun W => word_any 5 (by omega) W)
  have HGO : Hid (Calls Try.prog 10 #[Pw X8.pB, .int .i64 11, .int .u64 0] w8.drew fun e w' => e = .returned (.bool true) ∧ Below w8.drew.heap.size w8.drew w') := Lib.hid (by
    have := S4.pgoes_yes hgd.pw.permits (i := 11) (by omega) 0
    rw [show X8.pf = (fitn xD 5).1.pf from congrArg Sd.pf hgd.xm] at this
    have hg : S4.goesB ((fitn xD 5).1.pf 11) 0 = true := by unfold S4.goesB; rw [x4.2]; simp
    rw [hg] at this
    exact this)
  have HF : Hid ((fun w' => w'.cell? ⟨WB, 0, none⟩ = some (Pw X8.cB) ∧ w'.cell? ⟨WB, 2, none⟩ = some (Pw X8.pB)) w8.drew) := Lib.hid ⟨hgd.c.1, hgd.c.2.1⟩
  have HB := Lib.hid hg8.bl
  clear h8 hg8 hgd HR6
  refine wp_region_held_drew (S := fun w' => w'.cell? ⟨WB, 0, none⟩ = some (Pw X8.cB) ∧ w'.cell? ⟨WB, 2, none⟩ = some (Pw X8.pB)) (by kernel_rfl) ?_ (fun hHeld => ?_)
  · exact HF.out
  refine wpAnyH_take (i := 0) (oi := ({ dst := some 34, op := Op.move (Operand.tmp 2), type := 3, pos := "outright.go:30", after := #[], guard := none } : Oper)) (v := ?vzm1) rfl (by kernel_rfl) (by kernel_rfl) (by kernel_rfl) (fun _ _ _ h => h) (Or.inl ⟨by rfl, fun w hSw => ?hyzm1⟩) (by assumption) ?rzm1
  case hyzm1 => (try dsimp only at hSw); go_simp; (try with_reducible rfl)
  (try simp only [Act.put, List.setIfInBounds_toArray, List.set_cons_zero, List.set_cons_succ])
  refine wpAnyH_take (i := 1) (oi := ({ dst := some 35, op := Op.binOp BinOp.eql 3 (Operand.tmp 34) (Operand.const (Value.int IntKind.i64 1)) 3, type := 4, pos := "outright.go:30", after := #[{ on := 0, ground := Ground.data }], guard := none } : Oper)) (v := ?vzm2) rfl (by kernel_rfl) (by kernel_rfl) (by kernel_rfl) (fun _ _ _ h => h) (Or.inl ⟨by rfl, fun w hSw => ?hyzm2⟩) (by assumption) ?rzm2
  case hyzm2 => (try dsimp only at hSw); go_simp; (try with_reducible rfl)
  (try simp only [Act.put, List.setIfInBounds_toArray, List.set_cons_zero, List.set_cons_succ])
  refine wpAnyH_take (i := 2) (oi := ({ dst := some 36, op := Op.move (Operand.tmp 35), type := 4, pos := "outright.go:30", after := #[{ on := 1, ground := Ground.data }], guard := none } : Oper)) (v := ?vzm3) rfl (by kernel_rfl) (by kernel_rfl) (by kernel_rfl) (fun _ _ _ h => h) (Or.inl ⟨by rfl, fun w hSw => ?hyzm3⟩) (by assumption) ?rzm3
  case hyzm3 => (try dsimp only at hSw); go_simp; (try with_reducible rfl)
  (try simp only [Act.put, List.setIfInBounds_toArray, List.set_cons_zero, List.set_cons_succ])
  refine wpAnyH_take (i := 3) (oi := ({ dst := some 37, op := Op.move (Operand.tmp 3), type := 26, pos := "outright.go:30", after := #[{ on := 2, ground := Ground.guard }], guard := some (2, true) } : Oper)) (v := ?vzm4) rfl (by kernel_rfl) (by kernel_rfl) (by kernel_rfl) (fun _ _ _ h => h) (Or.inl ⟨by rfl, fun w hSw => ?hyzm4⟩) (by assumption) ?rzm4
  case hyzm4 => (try dsimp only at hSw); go_simp; (try with_reducible rfl)
  (try simp only [Act.put, List.setIfInBounds_toArray, List.set_cons_zero, List.set_cons_succ])
  refine wpAnyH_take (i := 4) (oi := ({ dst := some 38, op := Op.binOp BinOp.eql 26 (Operand.tmp 37) (Operand.const (Value.int IntKind.u64 0)) 26, type := 4, pos := "outright.go:30", after := #[{ on := 3, ground := Ground.data }, { on := 2, ground := Ground.guard }], guard := some (2, true) } : Oper)) (v := ?vzm5) rfl (by kernel_rfl) (by kernel_rfl) (by kernel_rfl) (fun _ _ _ h => h) (Or.inl ⟨by rfl, fun w hSw => ?hyzm5⟩) (by assumption) ?rzm5
  case hyzm5 => (try dsimp only at hSw); go_simp; (try with_reducible rfl)
  (try simp only [Act.put, List.setIfInBounds_toArray, List.set_cons_zero, List.set_cons_succ])
  refine wpAnyH_take (i := 5) (oi := ({ dst := some 39, op := Op.pick (Operand.tmp 36) (Operand.tmp 38) (Operand.const (Value.bool false)), type := 4, pos := "outright.go:30", after := #[{ on := 2, ground := Ground.data }, { on := 4, ground := Ground.data }], guard := none } : Oper)) (v := ?vzm6) rfl (by kernel_rfl) (by kernel_rfl) (by kernel_rfl) (fun _ _ _ h => h) (Or.inl ⟨by rfl, fun w hSw => ?hyzm6⟩) (by assumption) ?rzm6
  case hyzm6 => (try dsimp only at hSw); go_simp; (try with_reducible rfl)
  (try simp only [Act.put, List.setIfInBounds_toArray, List.set_cons_zero, List.set_cons_succ])
  refine wpAnyH_take (i := 6) (oi := ({ dst := some 40, op := Op.move (Operand.tmp 39), type := 4, pos := "outright.go:30", after := #[{ on := 5, ground := Ground.data }, { on := 2, ground := Ground.chain }], guard := none } : Oper)) (v := ?vzm7) rfl (by kernel_rfl) (by kernel_rfl) (by kernel_rfl) (fun _ _ _ h => h) (Or.inl ⟨by rfl, fun w hSw => ?hyzm7⟩) (by assumption) ?rzm7
  case hyzm7 => (try dsimp only at hSw); go_simp; (try with_reducible rfl)
  (try simp only [Act.put, List.setIfInBounds_toArray, List.set_cons_zero, List.set_cons_succ])
  refine wpAnyH_take (i := 7) (oi := ({ dst := some 41, op := Op.move (Operand.tmp 4), type := 3, pos := "outright.go:30", after := #[{ on := 6, ground := Ground.guard }], guard := some (6, true) } : Oper)) (v := ?vzm8) rfl (by kernel_rfl) (by kernel_rfl) (by kernel_rfl) (fun _ _ _ h => h) (Or.inl ⟨by rfl, fun w hSw => ?hyzm8⟩) (by assumption) ?rzm8
  case hyzm8 => (try dsimp only at hSw); go_simp; (try with_reducible rfl)
  (try simp only [Act.put, List.setIfInBounds_toArray, List.set_cons_zero, List.set_cons_succ])
  refine wpAnyH_take (i := 8) (oi := ({ dst := some 42, op := Op.binOp BinOp.eql 3 (Operand.tmp 41) (Operand.const (Value.int IntKind.i64 5)) 3, type := 4, pos := "outright.go:30", after := #[{ on := 7, ground := Ground.data }, { on := 6, ground := Ground.guard }], guard := some (6, true) } : Oper)) (v := ?vzm9) rfl (by kernel_rfl) (by kernel_rfl) (by kernel_rfl) (fun _ _ _ h => h) (Or.inl ⟨by rfl, fun w hSw => ?hyzm9⟩) (by assumption) ?rzm9
  case hyzm9 => (try dsimp only at hSw); go_simp; (try with_reducible rfl)
  (try simp only [Act.put, List.setIfInBounds_toArray, List.set_cons_zero, List.set_cons_succ])
  refine wpAnyH_take (i := 9) (oi := ({ dst := some 43, op := Op.pick (Operand.tmp 40) (Operand.tmp 42) (Operand.const (Value.bool false)), type := 4, pos := "outright.go:30", after := #[{ on := 6, ground := Ground.data }, { on := 8, ground := Ground.data }], guard := none } : Oper)) (v := ?vzm10) rfl (by kernel_rfl) (by kernel_rfl) (by kernel_rfl) (fun _ _ _ h => h) (Or.inl ⟨by rfl, fun w hSw => ?hyzm10⟩) (by assumption) ?rzm10
  case hyzm10 => (try dsimp only at hSw); go_simp; (try with_reducible rfl)
  (try simp only [Act.put, List.setIfInBounds_toArray, List.set_cons_zero, List.set_cons_succ])
  refine wpAnyH_take (i := 10) (oi := ({ dst := some 44, op := Op.move (Operand.tmp 43), type := 4, pos := "outright.go:30", after := #[{ on := 9, ground := Ground.data }, { on := 6, ground := Ground.chain }], guard := none } : Oper)) (v := ?vzm11) rfl (by kernel_rfl) (by kernel_rfl) (by kernel_rfl) (fun _ _ _ h => h) (Or.inl ⟨by rfl, fun w hSw => ?hyzm11⟩) (by assumption) ?rzm11
  case hyzm11 => (try dsimp only at hSw); go_simp; (try with_reducible rfl)
  (try simp only [Act.put, List.setIfInBounds_toArray, List.set_cons_zero, List.set_cons_succ])
  refine wpAnyH_take (i := 11) (oi := ({ dst := some 45, op := Op.move (Operand.tmp 1), type := 23, pos := "outright.go:30", after := #[{ on := 10, ground := Ground.guard }], guard := some (10, true) } : Oper)) (v := ?vzm12) rfl (by kernel_rfl) (by kernel_rfl) (by kernel_rfl) (fun _ _ _ h => h) (Or.inl ⟨by rfl, fun w hSw => ?hyzm12⟩) (by assumption) ?rzm12
  case hyzm12 => (try dsimp only at hSw); go_simp; (try with_reducible rfl)
  (try simp only [Act.put, List.setIfInBounds_toArray, List.set_cons_zero, List.set_cons_succ])
  refine wpAnyH_take (i := 12) (oi := ({ dst := some 46, op := Op.nilCheck (Operand.tmp 45), type := 0, pos := "outright.go:30", after := #[{ on := 11, ground := Ground.data }, { on := 10, ground := Ground.guard }], guard := some (10, true) } : Oper)) (v := ?vzm13) rfl (by kernel_rfl) (by kernel_rfl) (by kernel_rfl) (fun _ _ _ h => h) (Or.inl ⟨by rfl, fun w hSw => ?hyzm13⟩) (by assumption) ?rzm13
  case hyzm13 => (try dsimp only at hSw); go_simp; (try with_reducible rfl)
  (try simp only [Act.put, List.setIfInBounds_toArray, List.set_cons_zero, List.set_cons_succ])
  refine wpAnyH_take (i := 13) (oi := ({ dst := some 47, op := Op.fieldAddr 35 (Operand.tmp 46) 0, type := 0, pos := "outright.go:30", after := #[{ on := 12, ground := Ground.data }, { on := 10, ground := Ground.guard }], guard := some (10, true) } : Oper)) (v := ?vzm14) rfl (by kernel_rfl) (by kernel_rfl) (by kernel_rfl) (fun _ _ _ h => h) (Or.inl ⟨by rfl, fun w hSw => ?hyzm14⟩) (by assumption) ?rzm14
  case hyzm14 => (try dsimp only at hSw); go_simp; (try with_reducible rfl)
  (try simp only [Act.put, List.setIfInBounds_toArray, List.set_cons_zero, List.set_cons_succ])
  refine wpAnyH_take (i := 14) (oi := ({ dst := some 48, op := Op.load 27 (Operand.tmp 47), type := 27, pos := "outright.go:30", after := #[{ on := 13, ground := Ground.data }, { on := 10, ground := Ground.guard }], guard := some (10, true) } : Oper)) (v := ?vzm15) rfl (by kernel_rfl) (by kernel_rfl) (by kernel_rfl) (fun _ _ _ h => h) (Or.inl ⟨by rfl, fun w hSw => ?hyzm15⟩) (by assumption) ?rzm15
  case hyzm15 => (try dsimp only at hSw); go_simp; (try with_reducible rfl)
  (try simp only [Act.put, List.setIfInBounds_toArray, List.set_cons_zero, List.set_cons_succ])
  refine wpAnyH_ready (rs := [15]) (by kernel_rfl) (by simp) ?_
  refine AllReadyH.cons (o := ({ dst := some 49, op := Op.call { callee := Callee.value (Operand.func 13), args := #[Operand.tmp 48, Operand.const (Value.int IntKind.u32 267)], argTypes := #[27, 38] }, type := 26, pos := "outright.go:30", after := #[{ on := 14, ground := Ground.data }, { on := 10, ground := Ground.chain }, { on := 10, ground := Ground.guard }], guard := some (10, true) } : Oper)) rfl (fun Kq hKq => ?_) AllReadyH.nil
  go_simp
  (refine HPK.out.mono ?_; rintro e w9 ⟨rfl, rfl⟩)
  refine hKq.out _ _ ?_ (fun hHeld => ?_)
  · exact hHeld
  clear hKq Kq
  (try simp only [Act.put, List.setIfInBounds_toArray, List.set_cons_zero, List.set_cons_succ])
  refine wpAnyH_take (i := 16) (oi := ({ dst := some 50, op := Op.binOp BinOp.eql 26 (Operand.tmp 49) (Operand.const (Value.int IntKind.u64 0)) 26, type := 4, pos := "outright.go:30", after := #[{ on := 15, ground := Ground.data }, { on := 10, ground := Ground.guard }], guard := some (10, true) } : Oper)) (v := ?vzm16) rfl (by kernel_rfl) (by kernel_rfl) (by kernel_rfl) (fun _ _ _ h => h) (Or.inl ⟨by rfl, fun w hSw => ?hyzm16⟩) (by assumption) ?rzm16
  case hyzm16 => (try dsimp only at hSw); go_simp; (try with_reducible rfl)
  (try simp only [Act.put, List.setIfInBounds_toArray, List.set_cons_zero, List.set_cons_succ])
  refine wpAnyH_take (i := 17) (oi := ({ dst := some 51, op := Op.pick (Operand.tmp 44) (Operand.tmp 50) (Operand.const (Value.bool false)), type := 4, pos := "outright.go:30", after := #[{ on := 10, ground := Ground.data }, { on := 16, ground := Ground.data }], guard := none } : Oper)) (v := ?vzm17) rfl (by kernel_rfl) (by kernel_rfl) (by kernel_rfl) (fun _ _ _ h => h) (Or.inl ⟨by rfl, fun w hSw => ?hyzm17⟩) (by assumption) ?rzm17
  case hyzm17 => (try dsimp only at hSw); go_simp; (try with_reducible rfl)
  (try simp only [Act.put, List.setIfInBounds_toArray, List.set_cons_zero, List.set_cons_succ])
  refine wpAnyH_take (i := 18) (oi := ({ dst := some 52, op := Op.move (Operand.tmp 51), type := 4, pos := "outright.go:30", after := #[{ on := 17, ground := Ground.data }, { on := 15, ground := Ground.chain }], guard := none } : Oper)) (v := ?vzm18) rfl (by kernel_rfl) (by kernel_rfl) (by kernel_rfl) (fun _ _ _ h => h) (Or.inl ⟨by rfl, fun w hSw => ?hyzm18⟩) (by assumption) ?rzm18
  case hyzm18 => (try dsimp only at hSw); go_simp; (try with_reducible rfl)
  (try simp only [Act.put, List.setIfInBounds_toArray, List.set_cons_zero, List.set_cons_succ])
  refine wpAnyH_take (i := 19) (oi := ({ dst := some 53, op := Op.move (Operand.tmp 1), type := 23, pos := "outright.go:30", after := #[{ on := 18, ground := Ground.guard }], guard := some (18, true) } : Oper)) (v := ?vzm19) rfl (by kernel_rfl) (by kernel_rfl) (by kernel_rfl) (fun _ _ _ h => h) (Or.inl ⟨by rfl, fun w hSw => ?hyzm19⟩) (by assumption) ?rzm19
  case hyzm19 => (try dsimp only at hSw); go_simp; (try with_reducible rfl)
  (try simp only [Act.put, List.setIfInBounds_toArray, List.set_cons_zero, List.set_cons_succ])
  refine wpAnyH_take (i := 20) (oi := ({ dst := some 54, op := Op.nilCheck (Operand.tmp 53), type := 0, pos := "outright.go:30", after := #[{ on := 19, ground := Ground.data }, { on := 18, ground := Ground.guard }], guard := some (18, true) } : Oper)) (v := ?vzm20) rfl (by kernel_rfl) (by kernel_rfl) (by kernel_rfl) (fun _ _ _ h => h) (Or.inl ⟨by rfl, fun w hSw => ?hyzm20⟩) (by assumption) ?rzm20
  case hyzm20 => (try dsimp only at hSw); go_simp; (try with_reducible rfl)
  (try simp only [Act.put, List.setIfInBounds_toArray, List.set_cons_zero, List.set_cons_succ])
  refine wpAnyH_take (i := 21) (oi := ({ dst := some 55, op := Op.fieldAddr 35 (Operand.tmp 54) 2, type := 0, pos := "outright.go:30", after := #[{ on := 20, ground := Ground.data }, { on := 18, ground := Ground.guard }], guard := some (18, true) } : Oper)) (v := ?vzm21) rfl (by kernel_rfl) (by kernel_rfl) (by kernel_rfl) (fun _ _ _ h => h) (Or.inl ⟨by rfl, fun w hSw => ?hyzm21⟩) (by assumption) ?rzm21
  case hyzm21 => (try dsimp only at hSw); go_simp; (try with_reducible rfl)
  (try simp only [Act.put, List.setIfInBounds_toArray, List.set_cons_zero, List.set_cons_succ])
  refine wpAnyH_take (i := 22) (oi := ({ dst := some 56, op := Op.load 29 (Operand.tmp 55), type := 29, pos := "outright.go:30", after := #[{ on := 21, ground := Ground.data }, { on := 18, ground := Ground.guard }], guard := some (18, true) } : Oper)) (v := ?vzm22) rfl (by kernel_rfl) (by kernel_rfl) (by kernel_rfl) (fun _ _ _ h => h) (Or.inl ⟨by rfl, fun w hSw => ?hyzm22⟩) (by assumption) ?rzm22
  case hyzm22 => (try dsimp only at hSw); go_simp; (try with_reducible rfl)
  (try simp only [Act.put, List.setIfInBounds_toArray, List.set_cons_zero, List.set_cons_succ])
  refine wpAnyH_ready (rs := [23]) (by kernel_rfl) (by simp) ?_
  refine AllReadyH.cons (o := ({ dst := some 57, op := Op.call { callee := Callee.value (Operand.func 11), args := #[Operand.const (Value.int IntKind.i64 5)], argTypes := #[3] }, type := 3, pos := "outright.go:30", after := #[{ on := 18, ground := Ground.chain }, { on := 18, ground := Ground.guard }], guard := some (18, true) } : Oper)) rfl (fun Kq hKq => ?_) AllReadyH.nil
  go_simp
  (refine (HWD.out _).mono ?_; rintro e w9 ⟨rfl, rfl⟩)
  refine hKq.out _ _ ?_ (fun hHeld => ?_)
  · exact hHeld
  clear hKq Kq
  (try simp only [Act.put, List.setIfInBounds_toArray, List.set_cons_zero, List.set_cons_succ])
  refine wpAnyH_ready (rs := [24]) (by kernel_rfl) (by simp) ?_
  refine AllReadyH.cons (o := ({ dst := some 58, op := Op.call { callee := Callee.value (Operand.func 10), args := #[Operand.tmp 56, Operand.tmp 57, Operand.const (Value.int IntKind.u64 0)], argTypes := #[29, 3, 26] }, type := 4, pos := "outright.go:30", after := #[{ on := 22, ground := Ground.data }, { on := 23, ground := Ground.data }, { on := 23, ground := Ground.chain }, { on := 18, ground := Ground.guard }], guard := some (18, true) } : Oper)) rfl (fun Kq hKq => ?_) AllReadyH.nil
  go_simp
  (refine HGO.out.mono ?_; rintro e w9 ⟨rfl, hb9⟩; have HB9 := Lib.hid hb9; clear hb9)
  refine hKq.out _ _ ?_ (fun hHeld => ?_)
  · exact ⟨bcell HB9.out hHeld.1, bcell HB9.out hHeld.2⟩
  clear hKq Kq
  (try simp only [Act.put, List.setIfInBounds_toArray, List.set_cons_zero, List.set_cons_succ])
  refine wpAnyH_take (i := 25) (oi := ({ dst := some 59, op := Op.pick (Operand.tmp 52) (Operand.tmp 58) (Operand.const (Value.bool false)), type := 4, pos := "outright.go:30", after := #[{ on := 18, ground := Ground.data }, { on := 24, ground := Ground.data }], guard := none } : Oper)) (v := ?vzm23) rfl (by kernel_rfl) (by kernel_rfl) (by kernel_rfl) (fun _ _ _ h => h) (Or.inl ⟨by rfl, fun w hSw => ?hyzm23⟩) (by assumption) ?rzm23
  case hyzm23 => (try dsimp only at hSw); go_simp; (try with_reducible rfl)
  (try simp only [Act.put, List.setIfInBounds_toArray, List.set_cons_zero, List.set_cons_succ])
  refine wpAnyH_take (i := 26) (oi := ({ dst := some 0, op := Op.assign (Operand.tmp 59), type := 4, pos := "outright.go:30", after := #[{ on := 25, ground := Ground.data }, { on := 24, ground := Ground.chain }, { on := 0, ground := Ground.phase }, { on := 1, ground := Ground.phase }, { on := 2, ground := Ground.phase }, { on := 3, ground := Ground.phase }, { on := 4, ground := Ground.phase }, { on := 5, ground := Ground.phase }, { on := 6, ground := Ground.phase }, { on := 7, ground := Ground.phase }, { on := 8, ground := Ground.phase }, { on := 9, ground := Ground.phase }, { on := 10, ground := Ground.phase }, { on := 11, ground := Ground.phase }, { on := 12, ground := Ground.phase }, { on := 13, ground := Ground.phase }, { on := 14, ground := Ground.phase }, { on := 15, ground := Ground.phase }, { on := 16, ground := Ground.phase }, { on := 17, ground := Ground.phase }, { on := 18, ground := Ground.phase }, { on := 19, ground := Ground.phase }, { on := 20, ground := Ground.phase }, { on := 21, ground := Ground.phase }, { on := 22, ground := Ground.phase }, { on := 23, ground := Ground.phase }, { on := 24, ground := Ground.phase }, { on := 25, ground := Ground.phase }], guard := none } : Oper)) (v := ?vzm24) rfl (by kernel_rfl) (by kernel_rfl) (by kernel_rfl) (fun _ _ _ h => h) (Or.inl ⟨by rfl, fun w hSw => ?hyzm24⟩) (by assumption) ?rzm24
  case hyzm24 => (try dsimp only at hSw); go_simp; (try with_reducible rfl)
  (try simp only [Act.put, List.setIfInBounds_toArray, List.set_cons_zero, List.set_cons_succ])
  refine wpAnyH_done (by kernel_rfl) ?_ _
  go_wp2_with fail
  go_ret
  exact ⟨rfl, HB.out.trans ((Below.refl _ _).drew.mono HB.out.size |>.trans (HB9.out.mono HB.out.size))⟩
end
end Go.Proofs.Ytionigofajdkdaa.S14
namespace Go.Proofs.Ytionigofajdkdaa.S5
open Go.Proofs.Ytionigofajdkdaa

/-- Threads q, as they came; the last one from the head on that knows its tail is the k-th. -/
structure Queue (S : Lk) (q : List Nat) (k : Nat) : Prop where
  nodup : ∀ i j, i < q.length → j < q.length → q[i]! = q[j]! → i = j
  lt : ∀ i, i < q.length → q[i]! < 64
  hk : k < q.length
  tail : S (q[k]! * 3 + 2) = q[0]! + 1
  none : ∀ j, k < j → j < q.length → S (q[j]! * 3 + 2) = 0
  next : ∀ j, j + 1 < q.length → S (q[j + 1]! * 3) = q[j]! + 1
  prev : ∀ j, j < k → S (q[j]! * 3 + 1) = q[j + 1]! + 1
  last : S (q[q.length - 1]! * 3 + 1) = 0
def Good (S : Lk) (q : List Nat) : Prop := q = [] ∨ ∃ k, Queue S q k
theorem upd_same (S : Lk) (i v : Nat) : upd S i v i = v := by unfold upd; rw [if_pos rfl]
theorem upd_else {S : Lk} {i j v : Nat} (h : j ≠ i) : upd S i v j = S j := by unfold upd; rw [if_neg h]
/-- From the (k + d)-th on the way ends at the k-th. -/
theorem way (q : List Nat) (k : Nat) : ∀ (d m : Nat) (S : Lk), d ≤ m → k + d < q.length → (∀ i j, i < q.length → j < q.length → q[i]! = q[j]! → i = j) →
    S (q[k]! * 3 + 2) ≠ 0 → (∀ j, k < j → j < q.length → S (q[j]! * 3 + 2) = 0) → (∀ j, j + 1 < q.length → S (q[j + 1]! * 3) = q[j]! + 1) →
    ∃ S', go m S q[k + d]! = (S', some q[k]!) ∧ (∀ x, S' (x * 3) = S (x * 3)) ∧ (∀ x, S' (x * 3 + 2) = S (x * 3 + 2)) ∧ (∀ j, k ≤ j → j < k + d → S' (q[j]! * 3 + 1) = q[j + 1]! + 1) ∧
      (∀ x, (∀ j, k ≤ j → j < k + d → x ≠ q[j]!) → S' (x * 3 + 1) = S (x * 3 + 1)) := by
  intro d
  induction d with
  | zero =>
    intro m S _ _ _ hk _ _
    exact ⟨S, by rw [Nat.add_zero, go_stop m (.inl hk)], fun _ => rfl, fun _ => rfl, fun j h1 h2 => by omega, fun _ _ => rfl⟩
  | succ d ih =>
    intro m S hm hd hnd hk hno hne
    obtain ⟨m, rfl⟩ : ∃ m', m = m' + 1 := ⟨m - 1, by omega⟩
    have h2 := hno (k + d + 1) (by omega) (by omega)
    have h0 := hne (k + d) (by omega)
    have hgo := go_on m h2 h0
    obtain ⟨S', e1, e2, e3, e4, e5⟩ := ih m (upd S (q[k + d]! * 3 + 1) (q[k + d + 1]! + 1)) (by omega) (by omega) hnd
      (by rw [upd_else (by omega)]; exact hk) (fun j h1 h2 => by rw [upd_else (by omega)]; exact hno j h1 h2) (fun j h1 => by rw [upd_else (by omega)]; exact hne j h1)
    refine ⟨S', by rw [show k + (d + 1) = k + d + 1 by omega, hgo]; exact e1, fun x => by rw [e2, upd_else (by omega)], fun x => by rw [e3, upd_else (by omega)], fun j h1 h2 => ?_, fun x hx => ?_⟩
    · by_cases hj : j < k + d
      · exact e4 j h1 hj
      · obtain rfl : j = k + d := by omega
        rw [e5 _ (fun j h3 h4 e => by have := hnd _ _ (by omega) (by omega) e; omega), upd_same]
    · have hx2 := hx (k + d) (by omega) (by omega)
      rw [e5 x (fun j h3 h4 => hx j h3 (by omega)), upd_else (by omega)]
/-- At most as many as there are. -/
theorem pigeon : ∀ (N n : Nat) (f : Nat → Nat), (∀ i j, i < n → j < n → f i = f j → i = j) → (∀ i, i < n → f i < N) → n ≤ N := by
  intro N
  induction N with
  | zero =>
    intro n f _ hl
    cases n with
    | zero => exact Nat.le_refl _
    | succ n => have := hl 0 (by omega); omega
  | succ N ih =>
    intro n f hi hl
    by_cases h : ∃ i, i < n ∧ f i = N
    · obtain ⟨i, hin, hiN⟩ := h
      have := ih (n - 1) (fun j => if j < i then f j else f (j + 1)) (fun a b ha hb e => by
        by_cases h1 : a < i <;> by_cases h2 : b < i <;> simp only [h1, h2, if_true, if_false] at e
        · exact hi a b (by omega) (by omega) e
        · have := hi a (b + 1) (by omega) (by omega) e; omega
        · have := hi (a + 1) b (by omega) (by omega) e; omega
        · have := hi (a + 1) (b + 1) (by omega) (by omega) e; omega) (fun a ha => by
        by_cases h1 : a < i
        · simp only [h1, if_true]
          have h2 := hl a (by omega)
          have h3 : f a ≠ N := fun e => by have := hi a i (by omega) hin (by omega); omega
          omega
        · simp only [h1, if_false]
          have h2 := hl (a + 1) (by omega)
          have h3 : f (a + 1) ≠ N := fun e => by have := hi (a + 1) i (by omega) hin (by omega); omega
          omega)
      omega
    · have := ih n f hi (fun i hin => by
        have h2 := hl i hin
        have h3 : f i ≠ N := fun e => h ⟨i, hin, e⟩
        omega)
      omega
theorem short (q : List Nat) (h : ∀ i j, i < q.length → j < q.length → q[i]! = q[j]! → i = j) (hl : ∀ i, i < q.length → q[i]! < 64) : q.length ≤ 64 :=
  pigeon 64 q.length (fun i => q[i]!) h hl
section
variable {S : Lk} {q : List Nat} {k : Nat}
/-- What a seek from the head tells, and leaves. -/
theorem Queue.seek (h : Queue S q k) : (seekO S (some q[q.length - 1]!)).2 = q[0]! + 1 ∧ Queue (seekO S (some q[q.length - 1]!)).1 q (q.length - 1) := by
  have hk := h.hk
  have h64 := short q h.nodup h.lt
  obtain ⟨S', e1, e2, e3, e4, e5⟩ := way q k (q.length - 1 - k) 64 S (by omega) (by omega) h.nodup (by rw [h.tail]; omega) h.none h.next
  rw [show k + (q.length - 1 - k) = q.length - 1 by omega] at e1 e4 e5
  have ht : S' (q[k]! * 3 + 2) = q[0]! + 1 := by rw [e3]; exact h.tail
  have hr : seekO S (some q[q.length - 1]!) = (upd S' (q[q.length - 1]! * 3 + 2) (q[0]! + 1), q[0]! + 1) := by
    rw [seekO, seekS, e1, closeS, ht]
  rw [hr]
  refine ⟨rfl, ⟨h.nodup, h.lt, by omega, upd_same _ _ _, fun j h1 h2 => by omega, fun j hj => ?_, fun j hj => ?_, ?_⟩⟩
  · show upd S' _ _ _ = _
    rw [upd_else (by omega), e2]; exact h.next j hj
  · show upd S' _ _ _ = _
    rw [upd_else (by omega)]
    by_cases hjk : j < k
    · rw [e5 _ (fun i h1 h2 e => by have := h.nodup _ _ (by omega) (by omega) e; omega)]
      exact h.prev j hjk
    · exact e4 j (by omega) (by omega)
  · show upd S' _ _ _ = _
    rw [upd_else (by omega), e5 _ (fun i h1 h2 e => by have := h.nodup _ _ (by omega) (by omega) e; omega)]
    exact h.last
/-- One more than who is next behind the tail. -/
def nx (q : List Nat) : Nat := if 1 < q.length then q[1]! + 1 else 0
theorem Queue.nx (h : Queue S q (q.length - 1)) : S (q[0]! * 3 + 1) = S5.nx q := by
  have hk := h.hk
  unfold S5.nx
  by_cases h1 : 1 < q.length
  · rw [if_pos h1]
    exact h.prev 0 (by omega)
  · rw [if_neg h1]
    have := h.last
    rwa [show q.length - 1 = 0 by omega] at this
theorem tail_get {q : List Nat} (i : Nat) : q.tail[i]! = q[i + 1]! := by
  cases q with
  | nil => rfl
  | cons a r => rfl
/-- What a cut behind a seek tells, and leaves. -/
theorem Queue.cut (h : Queue S q (q.length - 1)) : (cutO S (some q[q.length - 1]!) (some q[0]!)).2 = S5.nx q ∧ Good (cutO S (some q[q.length - 1]!) (some q[0]!)).1 q.tail := by
  have hk := h.hk
  refine ⟨by show S _ = _; exact h.nx, ?_⟩
  by_cases h1 : 1 < q.length
  · right
    have hp := h.prev 0 (by omega)
    have hc : cutO S (some q[q.length - 1]!) (some q[0]!) = (upd S (q[q.length - 1]! * 3 + 2) (S (q[0]! * 3 + 1)), S (q[0]! * 3 + 1)) := cut_pos (by rw [hp]; omega)
    rw [hc, hp]
    have hl : q.tail.length = q.length - 1 := List.length_tail
    refine ⟨q.length - 2, ⟨fun i j hi hj e => ?_, fun i hi => ?_, by omega, ?_, fun j h1 h2 => by omega, fun j hj => ?_, fun j hj => ?_, ?_⟩⟩
    · rw [tail_get, tail_get] at e
      have := h.nodup _ _ (by omega) (by omega) e
      omega
    · rw [tail_get]; exact h.lt _ (by omega)
    · rw [tail_get, tail_get, show q.length - 2 + 1 = q.length - 1 by omega]
      exact upd_same _ _ _
    · rw [tail_get, tail_get]
      show upd S _ _ _ = _
      rw [upd_else (by omega)]
      exact h.next _ (by omega)
    · rw [tail_get, tail_get]
      show upd S _ _ _ = _
      rw [upd_else (by omega)]
      exact h.prev _ (by omega)
    · rw [tail_get, hl, show q.length - 1 - 1 + 1 = q.length - 1 by omega]
      show upd S _ _ _ = _
      rw [upd_else (by omega)]
      exact h.last
  · left
    exact List.eq_nil_of_length_eq_zero (by rw [List.length_tail]; omega)
theorem snoc_old {t i : Nat} (h : i < q.length) : (q ++ [t])[i]! = q[i]! := by
  rw [getElem!_pos _ i (by simp; omega), getElem!_pos _ i h, List.getElem_append_left h]
theorem snoc_new {t : Nat} : (q ++ [t])[q.length]! = t := by
  rw [getElem!_pos _ q.length (by simp)]; simp
/-- A push ahead of the head. -/
theorem Queue.push (h : Queue S q k) {t : Nat} (ht : t < 64) (hn : ∀ i, i < q.length → q[i]! ≠ t) : Queue (pushS S (some t) (some q[q.length - 1]!)) (q ++ [t]) k := by
  have hk := h.hk
  have hl : (q ++ [t]).length = q.length + 1 := by simp
  have hold : ∀ i j, i < q.length → j < 3 → pushS S (some t) (some q[q.length - 1]!) (q[i]! * 3 + j) = S (q[i]! * 3 + j) := fun i j hi hj => by
    have := hn i hi
    rw [pushS, pushed, put3, upd_else (by omega), upd_else (by omega), upd_else (by omega)]
  refine ⟨fun i j hi hj e => ?_, fun i hi => ?_, by omega, ?_, fun j h1 h2 => ?_, fun j hj => ?_, fun j hj => ?_, ?_⟩
  · by_cases hi2 : i < q.length
    · rw [snoc_old hi2] at e
      by_cases hj2 : j < q.length
      · rw [snoc_old hj2] at e
        exact h.nodup i j hi2 hj2 e
      · obtain rfl : j = q.length := by omega
        rw [snoc_new] at e
        exact absurd e (hn i hi2)
    · obtain rfl : i = q.length := by omega
      by_cases hj2 : j < q.length
      · rw [snoc_old hj2, snoc_new] at e
        exact absurd e.symm (hn j hj2)
      · omega
  · by_cases hi2 : i < q.length
    · rw [snoc_old hi2]; exact h.lt i hi2
    · obtain rfl : i = q.length := by omega
      rw [snoc_new]; exact ht
  · rw [snoc_old hk, snoc_old (by omega), hold k 2 hk (by omega)]
    exact h.tail
  · by_cases hj2 : j < q.length
    · rw [snoc_old hj2, hold j 2 hj2 (by omega)]
      exact h.none j h1 hj2
    · obtain rfl : j = q.length := by omega
      rw [snoc_new]
      rw [pushS, pushed, put3, upd_same]
  · by_cases hj2 : j + 1 < q.length
    · have := hold (j + 1) 0 hj2 (by omega)
      rw [Nat.add_zero] at this
      rw [snoc_old hj2, snoc_old (by omega), this]
      exact h.next j hj2
    · obtain rfl : j = q.length - 1 := by omega
      rw [show q.length - 1 + 1 = q.length by omega, snoc_new, snoc_old (by omega)]
      rw [pushS, pushed, put3, upd_else (by omega), upd_else (by omega), upd_same]
  · rw [snoc_old (by omega), snoc_old (by omega), hold j 1 (by omega) (by omega)]
    exact h.prev j hj
  · rw [hl, Nat.add_sub_cancel, snoc_new]
    rw [pushS, pushed, put3, upd_else (by omega), upd_same]
theorem queue_one {t : Nat} (ht : t < 64) : Queue (pushS S (some t) none) [t] 0 := by
  refine ⟨fun i j hi hj _ => by simp at hi hj; omega, fun i hi => ?_, by simp, ?_, fun j h1 h2 => by simp at h2; omega, fun j hj => by simp at hj, fun j hj => by omega, ?_⟩
  · obtain rfl : i = 0 := by simpa using hi
    exact ht
  · show pushS S (some t) none (t * 3 + 2) = t + 1
    rw [pushS, pushed, put3, upd_same]
  · show pushS S (some t) none (t * 3 + 1) = 0
    rw [pushS, pushed, put3, upd_else (by omega), upd_same]
end
end Go.Proofs.Ytionigofajdkdaa.S5
namespace Go.Proofs.Ytionigofajdkdaa.S14
open Go.Proofs.Ytionigofajdkdaa Go.Proofs.Ytionigofajdkdaa.S11 Go.Proofs.Ytionigofajdkdaa.S12 Go.Proofs.Ytionigofajdkdaa.S13
open Go.RowKit

theorem putU_val (l q : Bool) (h : Nat) (hh : h < 64) : S1.putU l q (h : Int) = 4 * (h + 1) + (if l then 1 else 0) + (if q then 2 else 0) := by
  unfold S1.putU S1.putN
  rw [if_pos (by omega)]
  cases l <;> cases q <;> simp <;> omega
theorem says_put (l q : Bool) (h : Nat) (hh : h < 64) : S1.bitB (S1.putU l q h) 0 = l ∧ S1.bitB (S1.putU l q h) 1 = q ∧ S1.headN (S1.putU l q h) = (h : Int) ∧ hdO (S1.putU l q h) = some h := by
  obtain ⟨n, e, _, h0, h1, h2⟩ := S1.put_nat l q (h : Int) (by unfold S1.isHead; omega)
  have e2 : S1.putU l q (h : Int) = n := by unfold S1.putU; rw [e]; rfl
  have v := putU_val l q h hh
  rw [e2] at v ⊢
  refine ⟨h0, h1, h2, ?_⟩
  have hq : n / 4 = h + 1 := by rw [v]; cases l <;> cases q <;> simp <;> omega
  unfold hdO
  rw [hq, if_pos (by omega), Nat.add_sub_cancel]
theorem idle_put (l : Bool) (h : Nat) (hh : h < 64) : idle (S1.putU l false h) = false := by
  obtain ⟨_, h1, h2, _⟩ := says_put l false h hh
  unfold idle
  rw [h1, h2, decide_eq_false (by omega)]; rfl
theorem wq_put (h : Nat) (hh : h < 64) : wq (S1.putU false false h) true = S1.putU false true h := by
  obtain ⟨h0, _, h2, _⟩ := says_put false false h hh
  unfold wq
  rw [h0, h2]
theorem and_all : ∀ h : Fin 64, (4 * (h.val + 1) + 2) &&& 18446744073709551613 = 4 * (h.val + 1) := by decide +kernel
theorem or_all : ∀ h : Fin 64, (4 * (h.val + 1)) ||| 1 = 4 * (h.val + 1) + 1 := by decide +kernel
theorem and_put (h : Nat) (hh : h < 64) : S1.putU false true h &&& 18446744073709551613 = S1.putU false false h := by
  rw [putU_val _ _ h hh, putU_val _ _ h hh]
  exact and_all ⟨h, hh⟩
theorem or_put (h : Nat) (hh : h < 64) : S1.putU false false h ||| 1 = S1.putU true false h := by
  rw [putU_val _ _ h hh, putU_val _ _ h hh]
  exact or_all ⟨h, hh⟩
theorem add_put (h : Nat) (hh : h < 64) : (S1.putU true false h + 18446744073709551615) % 18446744073709551616 = S1.putU false false h := by
  rw [putU_val _ _ h hh, putU_val _ _ h hh]
  simp only [if_true, if_false, Bool.false_eq_true]
  omega
/-- What a look for who came first tells of a queue, where nobody has the lock. -/
theorem seekL_q {S : S5.Lk} {q : List Nat} {k h : Nat} (hq : S5.Queue S q k) (hh : h = q[q.length - 1]!) : ∃ S3 n3, seekL S (S1.putU false true h) = (S3, (q[0]! : Int), n3) ∧ S5.Good S3 q.tail ∧ ((1 < q.length ∧ n3 = 6) ∨ (q.length = 1 ∧ n3 = 5)) := by
  have hk := hq.hk
  have h64 : h < 64 := by rw [hh]; exact hq.lt _ (by omega)
  obtain ⟨s0, s1, s2, s3⟩ := says_put false true h h64
  obtain ⟨g1, g2⟩ := hq.seek
  have g3 := g2.nx
  have g4 := g2.cut
  rw [← hh] at g1 g2 g3 g4
  have hz : ¬ (S5.seekO S (some h)).2 = 0 := by rw [g1]; omega
  have e1 : (S5.seekO S (some h)).2 - 1 = q[0]! := by rw [g1]; omega
  have e2 : (((S5.seekO S (some h)).2 : Nat) : Int) - (1 : Int) = ((q[0]! : Nat) : Int) := by rw [g1]; omega
  unfold seekL
  rw [s3, s0, if_neg hz, if_neg (by decide), e1, e2]
  by_cases hl : 1 < q.length
  · have hp : ¬ (S5.seekO S (some h)).1 (q[0]! * 3 + 1) = 0 := by rw [g3]; unfold S5.nx; rw [if_pos hl]; omega
    rw [if_neg hp]
    exact ⟨_, _, rfl, g4.2, .inl ⟨hl, rfl⟩⟩
  · have hp : (S5.seekO S (some h)).1 (q[0]! * 3 + 1) = 0 := by rw [g3]; unfold S5.nx; rw [if_neg hl]
    rw [if_pos hp]
    exact ⟨_, _, rfl, .inl (List.eq_nil_of_length_eq_zero (by rw [List.length_tail]; omega)), .inr ⟨by omega, rfl⟩⟩
/-- A Free of a word at which threads queue, by itself. -/
theorem free5 {M : Sd} {q : List Nat} {k h : Nat} (hq : S5.Queue M.lk q k) (hh : h = q[q.length - 1]!) (hl : S2.look M.L 267 = S1.putU true false h) :
    (∀ i, i < 5 → (fitn (M, fr0 267) i).2.ln ≠ 0) ∧ (fitn (M, fr0 267) 5).2.ln = 0 ∧ S2.look (fitn (M, fr0 267) 5).1.L 267 = (if 1 < q.length then S1.putU false false h else 0) ∧ S5.Good (fitn (M, fr0 267) 5).1.lk q.tail ∧
    (fitn (M, fr0 267) 5).1.pf = S4.updP M.pf (2 * q[0]! + 1) { M.pf (2 * q[0]! + 1) with p := true } ∧ (fitn (M, fr0 267) 5).1.sp = M.sp := by
  have hk := hq.hk
  have h64 : h < 64 := by rw [hh]; exact hq.lt _ (by omega)
  obtain ⟨u0, u1, u2, _⟩ := says_put true false h h64
  obtain ⟨v0, v1, v2, _⟩ := says_put false false h h64
  have e1 : fit (M, fr0 267) = (M.acc 5 267 (S1.putU false false h), ⟨2, 267, true, false, h, 0, 0⟩) := by
    show (M.acc 5 267 ((S2.look M.L 267 + 18446744073709551615) % 18446744073709551616), ({ fr0 267 with ln := if idle (S2.look M.L 267) = true then 0 else 2, l := S1.bitB (S2.look M.L 267) 0, q := S1.bitB (S2.look M.L 267) 1, h := S1.headN (S2.look M.L 267) } : Fr)) = _
    rw [hl, add_put h h64, idle_put true h h64, u0, u1, u2]; rfl
  obtain ⟨M1, hM1⟩ : ∃ M1, M1 = M.acc 5 267 (S1.putU false false h) := ⟨_, rfl⟩
  have l1 : S2.look M1.L 267 = S1.putU false false h := by rw [hM1]; exact look267 _ _ _
  have k1 : M1.lk = M.lk ∧ M1.pf = M.pf ∧ M1.sp = M.sp := by rw [hM1]; exact ⟨rfl, rfl, rfl⟩
  rw [← hM1] at e1
  have e2 : fit (M1, ⟨2, 267, true, false, h, 0, 0⟩) = (M1.acc 1 267 (S1.putU false false h), ⟨3, 267, false, false, h, S1.putU false false h, 0⟩) := by
    show (M1.acc 1 267 (S2.look M1.L 267), ((⟨2, 267, true, false, h, 0, 0⟩ : Fr).says (S2.look M1.L 267)).look) = _
    rw [l1]
    unfold Fr.look Fr.says
    dsimp only
    rw [idle_put false h h64, v0, v1, v2]; rfl
  obtain ⟨M2, hM2⟩ : ∃ M2, M2 = M1.acc 1 267 (S1.putU false false h) := ⟨_, rfl⟩
  have l2 : S2.look M2.L 267 = S1.putU false false h := by rw [hM2]; exact look267 _ _ _
  have k2 : M2.lk = M.lk ∧ M2.pf = M.pf ∧ M2.sp = M.sp := by rw [hM2]; exact k1
  rw [← hM2] at e2
  obtain ⟨S3, n3, hs, hg, hn3⟩ := seekL_q hq hh
  have e3 : fit (M2, ⟨3, 267, false, false, h, S1.putU false false h, 0⟩) = ((M2.acc 3 267 (S1.putU false true h)).link S3, ⟨n3, 267, false, true, h, S1.putU false true h, (q[0]! : Int)⟩) := by
    show (if S2.look M2.L 267 = S1.putU false false h then (M2.acc 3 267 (S2.casV (S2.look M2.L 267) (S1.putU false false h) (wq (S1.putU false false h) true))).link (seekL M2.lk (wq (S1.putU false false h) true)).1 else _,
      if S2.look M2.L 267 = S1.putU false false h then (⟨3, 267, false, true, h, wq (S1.putU false false h) true, 0⟩ : Fr).seek M2.lk else _) = _
    rw [if_pos l2, if_pos l2, l2, S2.casV, if_pos rfl, wq_put h h64, k2.1]
    unfold Fr.seek
    dsimp only
    rw [hs]
  obtain ⟨M3, hM3⟩ : ∃ M3, M3 = (M2.acc 3 267 (S1.putU false true h)).link S3 := ⟨_, rfl⟩
  have l3 : S2.look M3.L 267 = S1.putU false true h := by rw [hM3]; exact look267 M2 3 _
  have k3 : M3.lk = S3 ∧ M3.pf = M.pf ∧ M3.sp = M.sp := by rw [hM3]; exact ⟨rfl, k2.2⟩
  rw [← hM3] at e3
  have f1 : fitn (M, fr0 267) 1 = (M1, ⟨2, 267, true, false, h, 0, 0⟩) := e1
  have f2 : fitn (M, fr0 267) 2 = (M2, ⟨3, 267, false, false, h, S1.putU false false h, 0⟩) := by
    show fit (fitn (M, fr0 267) 1) = _
    rw [f1, e2]
  have f3 : fitn (M, fr0 267) 3 = (M3, ⟨n3, 267, false, true, h, S1.putU false true h, (q[0]! : Int)⟩) := by
    show fit (fitn (M, fr0 267) 2) = _
    rw [f2, e3]
  have hend : ∃ M4 l4 q4 h4, fitn (M, fr0 267) 4 = (M4, ⟨7, 267, l4, q4, h4, S1.putU false true h, (q[0]! : Int)⟩) ∧ S2.look M4.L 267 = (if 1 < q.length then S1.putU false false h else 0) ∧ M4.lk = S3 ∧ M4.pf = M.pf ∧ M4.sp = M.sp ∧ n3 ≠ 0 := by
    rcases hn3 with ⟨hq1, rfl⟩ | ⟨hq1, rfl⟩
    · refine ⟨M3.acc 6 267 (S1.putU false false h), false, true, h, ?_, by rw [if_pos hq1]; exact look267 _ _ _, k3.1, k3.2.1, k3.2.2, by omega⟩
      show fit (fitn (M, fr0 267) 3) = _
      rw [f3]
      show (M3.acc 6 267 (S2.look M3.L 267 &&& 18446744073709551613), _) = _
      rw [l3, and_put h h64]; rfl
    · refine ⟨M3.acc 3 267 0, false, false, -1, ?_, by rw [if_neg (by omega)]; exact look267 _ _ _, k3.1, k3.2.1, k3.2.2, by omega⟩
      show fit (fitn (M, fr0 267) 3) = _
      rw [f3]
      show (if S2.look M3.L 267 = S1.putU false true h then M3.acc 3 267 (S2.casV (S2.look M3.L 267) (S1.putU false true h) 0) else _, if S2.look M3.L 267 = S1.putU false true h then (⟨7, 267, false, false, -1, S1.putU false true h, (q[0]! : Int)⟩ : Fr) else _) = _
      rw [if_pos l3, if_pos l3, l3, S2.casV, if_pos rfl]
  obtain ⟨M4, l4, q4, h4, f4, a1, a2, a3, a4, a5⟩ := hend
  have f5 : fitn (M, fr0 267) 5 = (M4.unpark (2 * q[0]! + 1), ⟨0, 267, l4, q4, h4, S1.putU false true h, (q[0]! : Int)⟩) := by
    show fit (fitn (M, fr0 267) 4) = _
    rw [f4]; rfl
  refine ⟨fun i hi => ?_, by rw [f5], ?_, ?_, ?_, ?_⟩
  · rcases (show i = 0 ∨ i = 1 ∨ i = 2 ∨ i = 3 ∨ i = 4 by omega) with rfl | rfl | rfl | rfl | rfl
    · show 1 ≠ 0; omega
    · rw [f1]; show 2 ≠ 0; omega
    · rw [f2]; show 3 ≠ 0; omega
    · rw [f3]; exact a5
    · rw [f4]; show 7 ≠ 0; omega
  · rw [f5]; exact a1
  · rw [f5]
    show S5.Good M4.lk q.tail
    rw [a2]; exact hg
  · rw [f5]
    show S4.updP M4.pf _ { M4.pf (2 * q[0]! + 1) with p := true } = _
    rw [a3]
  · rw [f5]; exact a4
/-- A Free of a word that is locked alone. -/
theorem free1 {M : Sd} (hl : S2.look M.L 267 = 1) : (fitn (M, fr0 267) 1).2.ln = 0 ∧ S2.look (fitn (M, fr0 267) 1).1.L 267 = 0 ∧ (fitn (M, fr0 267) 1).1.pf = M.pf ∧ (fitn (M, fr0 267) 1).1.sp = M.sp := by
  have e1 : fitn (M, fr0 267) 1 = (M.acc 5 267 0, ({ fr0 267 with ln := 0, l := true, q := false, h := -1 } : Fr)) := by
    show (M.acc 5 267 ((S2.look M.L 267 + 18446744073709551615) % 18446744073709551616), ({ fr0 267 with ln := if idle (S2.look M.L 267) = true then 0 else 2, l := S1.bitB (S2.look M.L 267) 0, q := S1.bitB (S2.look M.L 267) 1, h := S1.headN (S2.look M.L 267) } : Fr)) = _
    rw [hl]; rfl
  rw [e1]
  exact ⟨rfl, look267 _ _ _, rfl, rfl⟩
/-- Threads D have queued, one behind the other. -/
structure QS (M : Sd) (D : List Nat) : Prop where
  lk : D = [] ∨ S5.Queue M.lk D 0
  look : S2.look M.L 267 = if D = [] then 1 else S1.putU true false (D[D.length - 1]! : Nat)
  pf : ∀ j, j < D.length → M.pf (2 * D[j]! + 1) = ⟨false, true, false, 0⟩
  sp : M.sp = 0
theorem QS.bit {M : Sd} {D : List Nat} (h : QS M D) : S1.bitB (S2.look M.L 267) 0 = true := by
  rw [h.look]
  rcases h.lk with rfl | hq
  · rw [if_pos rfl]; decide
  · have hk := hq.hk
    rw [if_neg (fun e => by rw [e] at hk; simp at hk)]
    exact (says_put true false _ (hq.lt _ (by omega))).1
theorem QS.push {M : Sd} {D : List Nat} (h : QS M D) {t : Nat} (ht : t < 64) (hn : ∀ i, i < D.length → D[i]! ≠ t) : QS (qM M t) (D ++ [t]) := by
  have hpf : ∀ x, (qM M t).pf x = S4.updP M.pf (2 * t + 1) ⟨false, true, false, 0⟩ x := fun x => by
    show S4.updP (S4.updP M.pf (2 * t + 1) S4.pk0) (2 * t + 1) (S4.parkK (S4.updP M.pf (2 * t + 1) S4.pk0 (2 * t + 1))) x = _
    have e : S4.updP M.pf (2 * t + 1) S4.pk0 (2 * t + 1) = S4.pk0 := by unfold S4.updP; rw [if_pos rfl]
    rw [e]
    unfold S4.updP
    by_cases hx : x = 2 * t + 1
    · rw [if_pos hx, if_pos hx]; rfl
    · rw [if_neg hx, if_neg hx, if_neg hx]
  have hlk : (qM M t).lk = S5.pushS M.lk (some t) (hdO (S2.look M.L 267)) := rfl
  have hlo : S2.look (qM M t).L 267 = S1.putU true (S1.bitB (S2.look M.L 267) 1) t := look267 (((M.acc 3 267 (S2.look M.L 267)).prep (2 * t + 1)).link (S5.pushS M.lk (some t) (hdO (S2.look M.L 267)))) 3 _
  have hb1 : S1.bitB (S2.look M.L 267) 1 = false := by
    rw [h.look]
    rcases h.lk with rfl | hq
    · rw [if_pos rfl]; decide
    · have hk := hq.hk
      rw [if_neg (fun e => by rw [e] at hk; simp at hk)]
      exact (says_put true false _ (hq.lt _ (by omega))).2.1
  refine ⟨.inr ?_, ?_, fun j hj => ?_, h.sp⟩
  · rw [hlk, h.look]
    rcases h.lk with rfl | hq
    · rw [if_pos rfl]
      exact S5.queue_one ht
    · have hk := hq.hk
      rw [if_neg (fun e => by rw [e] at hk; simp at hk), (says_put true false _ (hq.lt _ (by omega))).2.2.2]
      exact hq.push ht hn
  · rw [hlo, hb1, if_neg (by simp), show (D ++ [t]).length - 1 = D.length by simp, S5.snoc_new]
  · rw [hpf]
    unfold S4.updP
    by_cases hj2 : j < D.length
    · rw [S5.snoc_old hj2]
      have := hn j hj2
      rw [if_neg (by omega)]
      exact h.pf j hj2
    · obtain rfl : j = D.length := by simp at hj; omega
      rw [S5.snoc_new, if_pos rfl]
/-- So many of them have been woken. -/
structure FS (M : Sd) (D : List Nat) (i : Nat) : Prop where
  nodup : ∀ a b, a < D.length → b < D.length → D[a]! = D[b]! → a = b
  lt : ∀ a, a < D.length → D[a]! < 64
  le : i ≤ D.length
  lk : S5.Good M.lk (D.drop i)
  look : S2.look M.L 267 = if i = D.length then 1 else S1.putU true false (D[D.length - 1]! : Nat)
  pf : ∀ j, j < D.length → M.pf (2 * D[j]! + 1) = ⟨decide (j < i), true, false, 0⟩
theorem QS.first {M : Sd} {D : List Nat} (h : QS M D) : FS M D 0 := by
  rcases h.lk with rfl | hq
  · exact ⟨fun a b ha => by simp at ha, fun a ha => by simp at ha, Nat.zero_le _, .inl rfl, by rw [h.look]; rfl, fun j hj => by simp at hj⟩
  · have hk := hq.hk
    exact ⟨hq.nodup, hq.lt, Nat.zero_le _, .inr ⟨0, hq⟩, by rw [h.look, if_neg (fun e => by rw [e] at hk; simp at hk), if_neg (by omega)], fun j hj => by rw [h.pf j hj]; rfl⟩
theorem drop_get (D : List Nat) (i j : Nat) : (D.drop i)[j]! = D[i + j]! := by
  rw [List.getElem!_eq_getElem?_getD, List.getElem!_eq_getElem?_getD, List.getElem?_drop]
/-- A Free, while somebody queues: who came first is woken. -/
theorem FS.free {M : Sd} {D : List Nat} {i : Nat} (h : FS M D i) (hi : i < D.length) :
    (∀ k, k < 5 → (fitn (M, fr0 267) k).2.ln ≠ 0) ∧ (fitn (M, fr0 267) 5).2.ln = 0 ∧ (∀ j, j < D.length → (fitn (M, fr0 267) 5).1.pf (2 * D[j]! + 1) = ⟨decide (j < i + 1), true, false, 0⟩) ∧
    FS ((fitn (M, fr0 267) 5).1.acc 7 267 (S2.look (fitn (M, fr0 267) 5).1.L 267 ||| 1)) D (i + 1) := by
  have hlen : (D.drop i).length = D.length - i := List.length_drop
  rcases h.lk with e | ⟨k, hq⟩
  · have := congrArg List.length e
    rw [hlen] at this
    simp at this
    omega
  · have hlast : (D.drop i)[(D.drop i).length - 1]! = D[D.length - 1]! := by rw [drop_get, hlen]; congr 1; omega
    have h0 : (D.drop i)[0]! = D[i]! := by rw [drop_get]; rfl
    have hlt := h.lt (D.length - 1) (by omega)
    obtain ⟨g1, g2, g3, g4, g5, g6⟩ := free5 (M := M) (h := D[D.length - 1]!) hq hlast.symm (by rw [h.look, if_neg (by omega)])
    have hpf : ∀ j, j < D.length → (fitn (M, fr0 267) 5).1.pf (2 * D[j]! + 1) = ⟨decide (j < i + 1), true, false, 0⟩ := fun j hj => by
      rw [g5, h0]
      unfold S4.updP
      by_cases e : j = i
      · subst e
        rw [if_pos rfl, h.pf j hj, show decide (j < j + 1) = true from decide_eq_true (by omega)]
      · have : D[j]! ≠ D[i]! := fun e2 => e (h.nodup _ _ hj hi e2)
        rw [if_neg (by omega), h.pf j hj]
        congr 1
        by_cases h1 : j < i
        · rw [decide_eq_true h1, decide_eq_true (by omega)]
        · rw [decide_eq_false h1, decide_eq_false (by omega)]
    refine ⟨g1, g2, hpf, h.nodup, h.lt, by omega, ?_, ?_, hpf⟩
    · show S5.Good (fitn (M, fr0 267) 5).1.lk _
      rw [← List.tail_drop]; exact g4
    · rw [look267, g3, hlen]
      by_cases h1 : i + 1 = D.length
      · rw [if_neg (by omega), if_pos h1]; rfl
      · rw [if_pos (by omega), if_neg h1, or_put _ hlt]
end Go.Proofs.Ytionigofajdkdaa.S14
namespace Go.Proofs.Ytionigofajdkdaa.S14
open Go.Proofs.Ytionigofajdkdaa Go.Proofs.Ytionigofajdkdaa.S11 Go.Proofs.Ytionigofajdkdaa.S12 Go.Proofs.Ytionigofajdkdaa.S13
open Go.RowKit

/-- Bytes that came in. -/
def BIn (w : World) (base : Nat) (p : Option Addr) (n : Nat) (L : Nat → Nat) : Prop := 0 < n → ∃ lb lo, p = some ⟨lb, lo, none⟩ ∧ lb < base ∧ ∀ i, i < n → L i < 256 ∧ w.cell? ⟨lb, lo + i, none⟩ = some (.int .u8 (L i : Int))
def vals (D : List Nat) : List Value := D.map fun d : Nat => .int .i64 (d : Int)
/-- The order, beside a world. -/
def rowQ (base : Nat) (v : Value) (D : List Nat) : Part where
  ok w := S10.Row w base 1 v D.length (vals D)
  fp k := v.ownBlock = some k
  lt w h k e := (h.lt k e).2
  kept S w w' h t hs := h.keep (S := S) ⟨t.os, t.tape, t.output, t.size, t.block⟩ (fun g hg => hs g hg)
theorem layI : S10.Lay 39 3 1 8 (.int .i64 0) := ⟨Try.underlying39, S10.info_of (by kernel_rfl), rfl, by decide, by decide⟩
theorem row_at {w : World} {base : Nat} {v : Value} {D : List Nat} (h : S10.Row w base 1 v D.length (vals D)) {j : Nat} (hj : j < D.length) : ∃ g o cap, v = .slice (some ⟨g, o, none⟩) D.length cap ∧ ∀ j, j < D.length → w.cell? ⟨g, o + j, none⟩ = some (.int .i64 (D[j]! : Int)) := by
  obtain ⟨A', cap, rfl, h0, h1, h2, h3, h4⟩ := h
  cases A' with
  | none => have := h3 rfl; omega
  | some ad =>
    obtain ⟨g, o, rfl, _, _, hl, _⟩ := h4 _ rfl
    refine ⟨g, o, cap, rfl, fun j hj => hl j _ ?_⟩
    unfold vals
    rw [List.getElem?_map, List.getElem?_eq_getElem hj, getElem!_pos D j hj]; rfl
theorem row_shape {w : World} {base : Nat} {v : Value} {D : List Nat} (h : S10.Row w base 1 v D.length (vals D)) : ∃ A' cap, v = .slice A' D.length cap := by
  obtain ⟨A', cap, e, _⟩ := h
  exact ⟨A', cap, e⟩
theorem vals_one (D : List Nat) : ∀ u ∈ vals D, u.oneCell' = true := fun u hu => by
  simp only [vals, List.mem_map] at hu
  obtain ⟨d, _, rfl⟩ := hu
  rfl
/-- Is it among the first k of them? -/
def hadB (D : List Nat) (t k : Nat) : Bool := (List.range k).any fun j => D[j]! == t
theorem hadB_zero (D : List Nat) (t : Nat) : hadB D t 0 = false := rfl
theorem hadB_succ (D : List Nat) (t k : Nat) : hadB D t (k + 1) = (hadB D t k || (D[k]! == t)) := by
  unfold hadB
  rw [List.range_succ, List.any_append]
  simp
theorem hadB_none {D : List Nat} {t k : Nat} (h : hadB D t k = false) (j : Nat) (hj : j < k) : D[j]! ≠ t := by
  unfold hadB at h
  rw [List.any_eq_false] at h
  have := h j (List.mem_range.2 hj)
  simpa using this
section
variable {w0 w w' : World} {base WB : Nat} {M : Sd} {r : List Part} {X : Wm} {v : Value} {D : List Nat}
theorem pg_row0 (h : Pg w0 w base WB M [] X) : Pg w0 w base WB M [rowQ base (.slice none 0 0) []] X := by
  have hp := h.ps.push (rowQ base (.slice none 0 0) []) (Below.refl _ _) (S10.row_nil _ base 1) (fun k e => by cases e)
  rw [List.append_assoc] at hp
  exact ⟨hp, h.wB, h.xm, h.bl⟩
theorem pg_row (h : Pg w0 w base WB M [rowQ base v D] X) : S10.Row w base 1 v D.length (vals D) := h.ps.ok _ (rowQ base v D) (h.part (j := 0) rfl)
theorem pg_c2 (h : Pg w0 w base WB M r X) : w.cell? ⟨WB, 2, none⟩ = some (Pw X.pB) := h.c.2.1
theorem pg_setrow (h : Pg w0 w base WB M [rowQ base v D] X) {v' : Value} {D' : List Nat} (hr : S10.Row w' base 1 v' D'.length (vals D')) (t : S10.Turns (fun k => v.ownBlock = some k) w w') (ho : v'.ownBlock = v.ownBlock ∨ v'.ownBlock = some w.heap.size) : Pg w0 w' base WB M [rowQ base v' D'] X :=
  h.turn (j := 0) rfl (rowQ base v' D') hr ⟨t.os, t.tape, t.output, t.size, t.block⟩ (fun k e => by
    rcases ho with e2 | e2
    · exact .inl (by show v.ownBlock = some k; rw [← e2]; exact e)
    · exact .inr (by have : some k = some w.heap.size := by rw [← e2]; exact e.symm
                     exact Nat.le_of_eq (Option.some.inj this).symm))
theorem pg_or (h : Pg w0 w base WB M r X) (hn : M.n ≤ 1000000000) : Calls Try.prog 12 #[Pw X.cB, .int .u32 267, .int .u64 1] w fun e w' => (∃ v, e = .returned v) ∧ ∃ X', Pg w0 w' base WB (M.acc 7 267 (S2.look M.L 267 ||| 1)) r X' := by
  have e : X.L = M.L := congrArg Sd.L h.xm
  have e2 : X.n = M.n := congrArg Sd.n h.xm
  rw [← e]
  refine (S2.or_any w X.cB X.cM X.L X.n X.k X.a X.was X.is 267 1 h.pw.cells (by omega) (by omega) (by omega)).mono ?_
  rintro e w' ⟨rfl, hl⟩
  obtain ⟨X', hx, _⟩ := h.left hl
  exact ⟨⟨_, rfl⟩, X', hx⟩
end
theorem rem_facts (x : Nat) (hx : x < 256) : ∃ t : Nat, t < 64 ∧ (x : Int).tmod 64 = (t : Int) ∧ (x : Int) % 64 = (t : Int) ∧ IntKind.u8.wrap (t : Int) = (t : Int) ∧ IntKind.i64.wrap (t : Int) = (t : Int) ∧ wrap64 (t : Int) = (t : Int) := by
  have e : (x : Int) % 64 = ((x % 64 : Nat) : Int) := by omega
  have ht : x % 64 < 64 := Nat.mod_lt _ (by omega)
  generalize x % 64 = t at *
  exact ⟨t, ht, by rw [Int.tmod_eq_emod_of_nonneg (by omega)]; exact e, e, by rw [IntKind.wrap_u8]; omega, by rw [IntKind.wrap_i64]; omega, by unfold wrap64; omega⟩
/-- How it stands in the first loop. -/
def LA (w : World) (WB ln i : Nat) (s4 : Value) (wx : World) : Prop := ∃ (D : List Nat) (M : Sd) (X : Wm), i ≤ ln ∧ D.length ≤ i ∧ QS M D ∧ M.n ≤ 1 + 2 * i ∧ M.pn ≤ 2 * i ∧ Pg w wx w.heap.size WB M [rowQ w.heap.size s4 D] X
/-- How it stands in the second. -/
def LB (w : World) (WB : Nat) (D : List Nat) (i : Nat) (s4 : Value) (wx : World) : Prop := ∃ (M : Sd) (X : Wm), (i ≤ D.length → FS M D i) ∧ (i = D.length + 1 → S2.look M.L 267 = 0) ∧ M.n ≤ 200 + 6 * i ∧ M.pn ≤ 200 + 6 * i ∧ Pg w wx w.heap.size WB M [rowQ w.heap.size s4 D] X
theorem lb_first {w wx : World} {WB ln : Nat} {D : List Nat} {M : Sd} {X : Wm} {s4 : Value} (hqs : QS M D) (hn : M.n ≤ 1 + 2 * ln) (hp : M.pn ≤ 2 * ln) (hl : ln ≤ 64) (hpg : Pg w wx w.heap.size WB M [rowQ w.heap.size s4 D] X) : LB w WB D 0 s4 wx :=
  ⟨M, X, fun _ => hqs.first, fun e => by omega, by omega, by omega, hpg⟩
/-- What a Free does in the i-th round. -/
theorem run_i {w wr : World} {WB i : Nat} {D : List Nat} {M : Sd} {X : Wm} {s4 : Value} (hi : i ≤ D.length) (hf : FS M D i) (hn : M.n ≤ 100000) (hp : M.pn ≤ 100000) (hpg : Pg w wr w.heap.size WB M [rowQ w.heap.size s4 D] X) :
    ∃ (n : Nat) (M2 : Sd), 0 < n ∧ (i = D.length → n = 1) ∧ (∀ j, j < D.length → M2.pf (2 * D[j]! + 1) = ⟨decide (j < i + 1), true, false, 0⟩) ∧ (i < D.length → FS (M2.acc 7 267 (S2.look M2.L 267 ||| 1)) D (i + 1)) ∧ (i = D.length → S2.look M2.L 267 = 0) ∧ M2.n ≤ M.n + 5 ∧ M2.pn ≤ M.pn + 5 ∧
      Calls Try.prog 8 #[Pw WB, .iface 42 (Pw wr.heap.size), .int .i64 5] (wr.alloc (.cells (fr0 267).cs 71)) fun e w' => e = .returned (.int .i64 (n : Int)) ∧ ∃ X', Pg w w' w.heap.size WB M2 [rowQ w.heap.size s4 D] X' := by
  have hfa := Pg.freeAt hpg (fr0 267)
  by_cases h : i < D.length
  · obtain ⟨g1, g2, g3, g4⟩ := hf.free h
    have hb := fitn_n (M, fr0 267) 5
    refine ⟨5, (fitn (M, fr0 267) 5).1, by omega, fun e => by omega, g3, fun _ => g4, fun e => by omega, hb.1, hb.2, ?_⟩
    refine (run_f hfa (fok_new (by omega)) 5 5 (by omega) (by omega) (by omega) (by omega) (by omega) g1 g2).mono ?_
    rintro e w' ⟨rfl, X', h'⟩
    exact ⟨rfl, X', Wf.gone (j' := 0) h'⟩
  · obtain rfl : i = D.length := by omega
    have hl : S2.look M.L 267 = 1 := by rw [hf.look, if_pos rfl]
    obtain ⟨g1, g2, g3, g4⟩ := free1 hl
    have hb := fitn_n (M, fr0 267) 1
    refine ⟨1, (fitn (M, fr0 267) 1).1, by omega, fun _ => rfl, fun j hj => ?_, fun e => by omega, fun _ => g2, by have := hb.1; show _ ≤ M.n + 5; have e1 : (M, fr0 267).1.n = M.n := rfl; omega, by have := hb.2; have e1 : (M, fr0 267).1.pn = M.pn := rfl; omega, ?_⟩
    · rw [g3, hf.pf j hj, decide_eq_true hj, decide_eq_true (by omega)]
    · refine (run_f hfa (fok_new (by omega)) 1 5 (by omega) (by omega) (by omega) (by omega) (by omega) (fun k hk => by
        obtain rfl : k = 0 := by omega
        show 1 ≠ 0
        omega) g1).mono ?_
      rintro e w' ⟨rfl, X', h'⟩
      exact ⟨rfl, X', Wf.gone (j' := 0) h'⟩
set_option maxRecDepth 100000 in
set_option maxHeartbeats 16000000 in
theorem law_order {w : World} {lA : Option Addr} {ln lc : Nat} {L : Nat → Nat} (hli : BIn w w.heap.size lA ln L) (hln : ln ≤ 9223372036854775807) : Calls Try.prog 3 #[.slice lA ln lc] w fun e w' => e = .returned (.bool true) ∧ Below w.heap.size w w' := by
  have HLV := Lib.hid (fun W => lives14 W)
  have HW : Hid (Calls Try.prog 4 #[.int .u8 0] w fun e w' => ∃ X, e = .returned (Pw X.wB) ∧ PW w' w.heap.size X ∧ At0 X 0 5 [] ∧ Below w.heap.size w w') := Lib.hid (world_any 0 (by omega) w)
  by_cases hbig : 64 < ln
  · have d1 : decide ((64 : Int) < (ln : Int)) = true := by simp; omega
    have d2 : (64 : Int) < (ln : Int) := by omega
    clear hli hln hbig
    go_enter Try.func3, Try.ntmps3
    go_upto_region 2 with (go_at_call 4; refine HW.out.mono ?_; rintro e w1 ⟨X, rfl, hp, h0, hb⟩)
    have HB := Lib.hid hb
    clear hp h0 hb HW
    generalize X.wB = WB at *
    go_wp2_with (go_at_call 5; refine (HLV.out _).mono ?_; rintro e w2 ⟨rfl, hb2⟩)
    go_ret
    exact ⟨rfl, HB.out.trans (hb2.mono HB.out.size)⟩
  have d1 : decide ((64 : Int) < (ln : Int)) = false := by simp; omega
  have d2 : ¬ (64 : Int) < (ln : Int) := by omega
  have HLI := Lib.hid hli; have HLN := Lib.hid (show ln ≤ 64 by omega)
  clear hli hln hbig
  go_enter Try.func3, Try.ntmps3
  go_upto_region 4 with (go_at_call 4; refine HW.out.mono ?_; rintro e w1 ⟨X, rfl, hp, h0, hb⟩)
  have hpg := pg_of hp hb
  rw [at0_sd h0] at hpg
  obtain ⟨WB, hWB⟩ : ∃ x, x = X.wB := ⟨_, rfl⟩
  rw [← hWB] at hpg ⊢
  have x0 := hpg.c.1
  have HST := Lib.hid (pg_store hpg (by show 0 ≤ _; omega))
  clear hpg hp h0 hb hWB HW d1 d2
  go_upto_region 5 with (go_at_call 6; refine HST.out.mono ?_; rintro e w2 ⟨⟨sv, rfl⟩, X2, h2⟩)
  have HLA : Hid (LA w WB ln 0 (.slice none 0 0) w2) := Lib.hid ⟨[], _, X2, Nat.zero_le _, Nat.le_refl _, ⟨.inl rfl, look267 _ _ _, fun j hj => by simp at hj, rfl⟩, by show 0 + 1 ≤ 1; omega, Nat.le_refl _, pg_row0 h2⟩
  clear h2 x0 HST
  go_upto_region 6 with (fail)
  go_upto_block 0 with fail
  go_cut [4] from 5 to 66 (fun s4 wx => LA w WB ln ln s4 wx)
  case first =>
    go_wp2_with fail
    go_loopg [4, 5] ln (fun q s4 s5 wx => ∃ i : Nat, q = ln - i ∧ s5 = .int .i64 (i : Int) ∧ LA w WB ln i s4 wx)
    case atStart => exact ⟨0, rfl, rfl, HLA.out⟩
    case round =>
      obtain ⟨i, rfl, rfl, D, M, X, hi1, hdl, hqs, hn, hp, hpg⟩ := hrel
      have hrow := pg_row hpg
      obtain ⟨A', cap, rfl⟩ := row_shape hrow
      by_cases hin : i < ln
      · obtain ⟨lb, lo, haa, hlb, hac⟩ := HLI.out (by omega)
        obtain ⟨hx, hcl⟩ := hac i hin
        have r0 : wr.cell? ⟨lb, lo + i, none⟩ = some (.int .u8 (L i : Int)) := (hpg.bl.cell (p := ⟨lb, lo + i, none⟩) hlb).trans hcl
        subst haa
        obtain ⟨t, ht, t1, t2, t3, t4, t5⟩ := rem_facts (L i) hx
        generalize L i = x at *
        have hi5 : (i : Int) < (ln : Int) := by omega
        have HPG := Lib.hid hpg; have HQS := Lib.hid hqs; have HI := Lib.hid (And.intro hin (And.intro hdl (And.intro hn hp))); have HT := Lib.hid ht; have HROW := Lib.hid hrow
        clear hpg hqs hn hp hac hcl hlb hx hi1 hdl hrow hin ht
        go_upto_region 10 with (fail)
        clear t1 t2 t3 t4 t5 r0
        go_upto_region 11 with (fail)
        go_upto_block 2 with fail
        obtain ⟨wo, rfl⟩ : ∃ wo : World, wo = wr := ⟨_, rfl⟩
        go_cut [7, 8] from 43 to 57 (fun s7 s8 wy => s7 = .bool (hadB D t D.length) ∧ wy = wo)
        case first =>
          go_wp2_with fail
          go_loopg [7, 8] D.length (fun q s7 s8 wy => ∃ k : Nat, k ≤ D.length ∧ q = D.length - k ∧ s8 = .int .i64 (k : Int) ∧ s7 = .bool (hadB D t k) ∧ wy = wo)
          case atStart => exact ⟨0, by omega, by omega, rfl, rfl, rfl⟩
          case round =>
            obtain ⟨k, hk1, rfl, rfl, rfl, rfl⟩ := hrel
            by_cases hk : k < D.length
            · obtain ⟨g, o, cap2, hv, hcs⟩ := row_at HROW.out hk
              have c0 := hcs k hk
              injection hv with hv1 hv2 hv3
              subst hv1
              have hk5 : (k : Int) < (D.length : Int) := by omega
              have hs := hadB_succ D t k
              have HK := Lib.hid (And.intro hk HI.out)
              have hk100 : k + 1 ≤ 1000 := by have := HK.out; have := HLN.out; omega
              clear hcs hv3 hk1 hk
              cases hb : hadB D t k with
              | true =>
                rw [hb] at hs
                have HS := Lib.hid (show hadB D t (k + 1) = true by rw [hs, Bool.true_or])
                clear hs hb c0
                go_wp2_with fail
                go_roundg (D.length - (k + 1))
                case measure => have := HK.out; omega
                case rel => exact ⟨k + 1, by have := HK.out; omega, rfl, by go_num, by rw [HS.out], rfl⟩
              | false =>
                rw [hb] at hs
                by_cases e : D[k]! = t
                · rw [e] at c0
                  have HS := Lib.hid (show hadB D t (k + 1) = true by rw [hs, e, Bool.false_or, beq_self_eq_true])
                  clear hs hb e
                  go_wp2_with fail
                  go_roundg (D.length - (k + 1))
                  case measure => have := HK.out; omega
                  case rel => exact ⟨k + 1, by have := HK.out; omega, rfl, by go_num, by rw [HS.out], rfl⟩
                · have hne : ((D[k]! : Int) == (t : Int)) = false := by rw [beq_eq_false_iff_ne]; omega
                  have HS := Lib.hid (show hadB D t (k + 1) = false by rw [hs, Bool.false_or, beq_eq_false_iff_ne]; exact e)
                  generalize D[k]! = dk at *
                  clear hs hb e
                  go_wp2_with fail
                  go_roundg (D.length - (k + 1))
                  case measure => have := HK.out; omega
                  case rel => exact ⟨k + 1, by have := HK.out; omega, rfl, by go_num, by rw [HS.out], rfl⟩
            · obtain rfl : k = D.length := by omega
              have d9 : decide ((D.length : Int) < (D.length : Int)) = false := by simp
              clear hk1 hk
              go_wp2_with fail
              go_meet
              exact ⟨rfl, rfl⟩
        case rest =>
          obtain ⟨rfl, rfl⟩ := hcut
          cases hb : hadB D t D.length with
          | true =>
            clear hb
            have hi9 : i + 1 ≤ 100 := by have := HI.out; have := HLN.out; omega
            go_wp2_with fail
            go_roundg (ln - (i + 1))
            case measure => have := HI.out; omega
            case rel => exact ⟨i + 1, rfl, by go_num, D, M, X, by have := HI.out; omega, by have := HI.out; omega, HQS.out, by have := HI.out; omega, by have := HI.out; omega, HPG.out⟩
          | false =>
            have hq := queued_f HPG.out HT.out HQS.out.sp HQS.out.bit (by have := HI.out; have := HLN.out; omega) (by have := HI.out; have := HLN.out; omega)
            have HQ := Lib.hid hq
            have HQS2 := Lib.hid (HQS.out.push HT.out (hadB_none hb))
            clear hq hb
            go_upto_region 18 with (go_at_call 7; refine HQ.out.mono ?_; rintro e w5 ⟨rfl, X5, h5⟩)
            have HR5 := Lib.hid (pg_row h5); have HP5 := Lib.hid h5
            have hi9 : i + 1 ≤ 100 := by have := HI.out; have := HLN.out; omega
            clear h5 HQ
            go_wp2_with (at_builtin; refine S10.wpList_append_row layI rfl _ _ rfl rfl (HR5.out.alloc _) (vals_one D) (by have := HP5.out.bl.size; simp; omega) 1 rfl (S10.rd_one1 w5 (.int .i64 (t : Int)) 3) rfl (fun u hu => by simp at hu; rw [hu]; rfl) (by have := HI.out; have := HLN.out; omega) ?_; intro v2 w6 hr2 ht2 ho2; (have HR2 := Lib.hid hr2); (have HT2 := Lib.hid ht2); (have HO2 := Lib.hid ho2); (clear hr2 ht2 ho2))
            go_roundg (ln - (i + 1))
            case measure => have := HI.out; omega
            case rel =>
              have hv : vals D ++ [.int .i64 (t : Int)] = vals (D ++ [t]) := by unfold vals; simp
              have hl2 : (D ++ [t]).length = D.length + 1 := by simp
              have hr9 := HR2.out
              rw [hv, ← hl2] at hr9
              exact ⟨i + 1, rfl, by go_num, D ++ [t], qM M t, X5, by have := HI.out; omega, by rw [hl2]; have := HI.out; omega, HQS2.out, by show M.n + 1 + 1 ≤ _; have := HI.out; omega, by show M.pn + 1 + 1 ≤ _; have := HI.out; omega, pg_setrow (HP5.out.new (below1 _ _)) hr9 HT2.out HO2.out⟩
      · obtain rfl : i = ln := by omega
        have HFIN : Hid (LA w WB i i (.slice A' D.length cap) wr) := Lib.hid ⟨D, M, X, Nat.le_refl _, hdl, hqs, hn, hp, hpg⟩
        have d9 : decide ((i : Int) < (i : Int)) = false := by simp
        clear hi1 hin hdl hqs hn hp hpg hrow
        go_wp2_with fail
        go_meet
        exact HFIN.out
  case rest =>
    obtain ⟨D, M, X, _, hdl, hqs, hn, hp, hpg⟩ := hcut
    obtain ⟨A', cap, rfl⟩ := row_shape (pg_row hpg)
    have HD := Lib.hid (Nat.le_trans hdl HLN.out)
    have HLB := Lib.hid (lb_first hqs hn hp HLN.out hpg); have HDL := Lib.hid (fun a (ha : a < D.length) => hqs.first.lt a ha)
    clear hdl hqs hn hp hpg HLA HLI
    go_upto_region 19 with (fail)
    go_upto_block 4 with fail
    go_cut [9, 10, 11] from 67 to 117 (fun s9 s10 s11 wx => LB w WB D (D.length + 1) (.slice A' D.length cap) wx)
    case first =>
      go_wp2_with fail
      go_loopg [9] (D.length + 1) (fun q s9 wx => ∃ i : Nat, i ≤ D.length + 1 ∧ q = D.length + 1 - i ∧ s9 = .int .i64 (i : Int) ∧ LB w WB D i (.slice A' D.length cap) wx)
      case atStart => exact ⟨0, by omega, by omega, rfl, HLB.out⟩
      case round =>
        obtain ⟨i, hi1, rfl, rfl, M, X, hfs, hz, hn, hp, hpg⟩ := hrel
        have hi100 : i + 1 ≤ 100 := by have := HD.out; omega
        by_cases hin : i ≤ D.length
        · obtain ⟨n, M2, n0, n1, hpf, hf2, hz2, hn2, hp2, hrun⟩ := run_i hin (hfs hin) (by omega) (by omega) hpg
          have hi5 : (i : Int) ≤ (D.length : Int) := by omega
          have d5 : decide ((i : Int) ≤ (D.length : Int)) = true := decide_eq_true hi5
          have HNF : Hid (∀ W, Calls Try.prog 9 #[.int .u32 267] W fun e w' => e = .returned (Pw W.heap.size) ∧ w' = W.alloc (.cells (fr0 267).cs 71)) := Lib.hid (fun W => new_free 267 W)
          have HRUN := Lib.hid hrun; have HN := Lib.hid (And.intro n0 (And.intro n1 (And.intro hpf (And.intro hf2 (And.intro hz2 (And.intro (show M2.n ≤ 205 + 6 * i by omega) (show M2.pn ≤ 205 + 6 * i by omega)))))))
          have HI := Lib.hid hin
          clear hrun n0 n1 hpf hf2 hz2 hn2 hp2 hfs hz hn hp hpg hi1 hin
          go_upto_region 23 with (first
            | (go_at_call 9; refine (HNF.out _).mono ?_; rintro e w5 ⟨rfl, rfl⟩)
            | (go_at_call 8; refine HRUN.out.mono ?_; rintro e w6 ⟨rfl, X6, h6⟩))
          have H6 := Lib.hid h6
          clear h6 HRUN HNF
          obtain ⟨wo, rfl⟩ : ∃ wo : World, wo = w6 := ⟨_, rfl⟩
          have e1 : ((n : Int) == 0) = false := by rw [beq_eq_false_iff_ne]; have := HN.out.1; omega
          have HWD := Lib.hid (fun (t : Nat) (ht : t < 64) W => word_any t ht W)
          by_cases hlt : i < D.length
          · have e2 : ((i : Int) == (D.length : Int)) = false := by rw [beq_eq_false_iff_ne]; omega
            have d11 : decide ((i : Int) ≤ (D.length : Int)) = true := d5
            go_upto_region 25 with (fail)
            go_upto_block 6 with fail
            go_cut [11] from 89 to 108 (fun s11 wy => Below wo.heap.size wo wy)
            case first =>
              go_wp2_with fail
              go_loopg [11] D.length (fun q s11 wy => ∃ k : Nat, k ≤ D.length ∧ q = D.length - k ∧ s11 = .int .i64 (k : Int) ∧ Below wo.heap.size wo wy)
              case atStart => exact ⟨0, by omega, by omega, rfl, Below.refl _ _⟩
              case round =>
                obtain ⟨k, hk1, rfl, rfl, hby⟩ := hrel
                by_cases hk : k < D.length
                · obtain ⟨g, o, cap2, hv, hcs⟩ := row_at (pg_row H6.out) hk
                  injection hv with hv1 hv2 hv3
                  have c0 := bcell hby (hcs k hk)
                  have c2 := bcell hby (pg_c2 H6.out)
                  have hlt9 := HN.out.2.2.1 k hk
                  have hk64 : D[k]! < 64 := (HDL.out k hk)
                  obtain ⟨dk, hdk⟩ : ∃ dk, dk = D[k]! := ⟨_, rfl⟩
                  rw [← hdk] at c0 hk64 hlt9
                  have hgo : ∀ W, Below wo.heap.size wo W → Calls Try.prog 10 #[Pw X6.pB, .int .i64 ((2 * dk + 1 : Nat) : Int), .int .u64 0] W fun e w' => e = .returned (.bool (decide (k < i + 1))) ∧ Below W.heap.size W w' := fun W hW => by
                    have hh := H6.out.new hW
                    have := S4.pgoes_yes hh.pw.permits (i := 2 * dk + 1) (by omega) 0
                    rw [show X6.pf = M2.pf from congrArg Sd.pf hh.xm, hlt9] at this
                    have hg : S4.goesB ⟨decide (k < i + 1), true, false, 0⟩ 0 = decide (k < i + 1) := by
                      unfold S4.goesB
                      rw [decide_eq_false (fun e => by have h : true = false := congrArg S4.Pk.a e; cases h), Bool.false_or, Bool.false_and, Bool.or_false]
                    rw [hg] at this
                    exact this
                  have HGO := Lib.hid hgo
                  have HWD9 := Lib.hid (HWD.out dk hk64)
                  have hk5 : (k : Int) < (D.length : Int) := by omega
                  have hle9 : decide ((k : Int) ≤ (i : Int)) = decide (k < i + 1) := by
                    by_cases h : k < i + 1
                    · rw [decide_eq_true h, decide_eq_true (by omega)]
                    · rw [decide_eq_false h, decide_eq_false (by omega)]
                  have hle8 : decide (k ≤ i) = decide (k < i + 1) := by
                    by_cases h : k < i + 1
                    · rw [decide_eq_true h, decide_eq_true (by omega)]
                    · rw [decide_eq_false h, decide_eq_false (by omega)]
                  have hk100 : k + 1 ≤ 1000 := by have := HD.out; omega
                  have HK := Lib.hid hk; have HBY := Lib.hid hby
                  clear hcs hv3 hk1 hk hgo hlt9 hk64 hby hdk
                  subst hv1
                  obtain ⟨bb, hbb⟩ : ∃ bb, bb = decide (k < i + 1) := ⟨_, rfl⟩
                  rw [← hbb] at HGO hle9 hle8
                  clear hbb
                  have HF : Hid ((fun w' => Below wo.heap.size wo w' ∧ w'.cell? ⟨WB, 2, none⟩ = some (Pw X6.pB) ∧ w'.cell? ⟨g, o + k, none⟩ = some (.int .i64 (dk : Int))) wr.drew) := Lib.hid ⟨HBY.out.drew, c2, c0⟩
                  go_upto_region 28 with (fail)
                  refine wp_region_held_drew (S := fun w' => Below wo.heap.size wo w' ∧ w'.cell? ⟨WB, 2, none⟩ = some (Pw X6.pB) ∧ w'.cell? ⟨g, o + k, none⟩ = some (.int .i64 (dk : Int))) (by kernel_rfl) ?_ (fun hHeld => ?_)
                  · exact HF.out
                  refine wpAnyH_take (i := 0) (oi := ({ dst := some 95, op := Op.move (Operand.tmp 3), type := 23, pos := "outright.go:156", after := #[], guard := none } : Oper)) (v := ?vzqm1) rfl (by kernel_rfl) (by kernel_rfl) (by kernel_rfl) (fun _ _ _ h => h) (Or.inl ⟨by rfl, fun w hSw => ?hyzqm1⟩) (by assumption) ?rzqm1
                  case hyzqm1 => (try dsimp only at hSw); go_simp; (try with_reducible rfl)
                  (try simp only [Act.put, List.setIfInBounds_toArray, List.set_cons_zero, List.set_cons_succ])
                  refine wpAnyH_take (i := 1) (oi := ({ dst := some 96, op := Op.nilCheck (Operand.tmp 95), type := 0, pos := "outright.go:156", after := #[{ on := 0, ground := Ground.data }], guard := none } : Oper)) (v := ?vzqm2) rfl (by kernel_rfl) (by kernel_rfl) (by kernel_rfl) (fun _ _ _ h => h) (Or.inl ⟨by rfl, fun w hSw => ?hyzqm2⟩) (by assumption) ?rzqm2
                  case hyzqm2 => (try dsimp only at hSw); go_simp; (try with_reducible rfl)
                  (try simp only [Act.put, List.setIfInBounds_toArray, List.set_cons_zero, List.set_cons_succ])
                  refine wpAnyH_take (i := 2) (oi := ({ dst := some 97, op := Op.fieldAddr 35 (Operand.tmp 96) 2, type := 0, pos := "outright.go:156", after := #[{ on := 1, ground := Ground.data }], guard := none } : Oper)) (v := ?vzqm3) rfl (by kernel_rfl) (by kernel_rfl) (by kernel_rfl) (fun _ _ _ h => h) (Or.inl ⟨by rfl, fun w hSw => ?hyzqm3⟩) (by assumption) ?rzqm3
                  case hyzqm3 => (try dsimp only at hSw); go_simp; (try with_reducible rfl)
                  (try simp only [Act.put, List.setIfInBounds_toArray, List.set_cons_zero, List.set_cons_succ])
                  refine wpAnyH_take (i := 3) (oi := ({ dst := some 98, op := Op.load 29 (Operand.tmp 97), type := 29, pos := "outright.go:156", after := #[{ on := 2, ground := Ground.data }], guard := none } : Oper)) (v := ?vzqm4) rfl (by kernel_rfl) (by kernel_rfl) (by kernel_rfl) (fun _ _ _ h => h) (Or.inl ⟨by rfl, fun w hSw => ?hyzqm4⟩) (by assumption) ?rzqm4
                  case hyzqm4 => (try dsimp only at hSw); go_simp; (try with_reducible rfl)
                  (try simp only [Act.put, List.setIfInBounds_toArray, List.set_cons_zero, List.set_cons_succ])
                  refine wpAnyH_take (i := 4) (oi := ({ dst := some 99, op := Op.move (Operand.tmp 4), type := 39, pos := "outright.go:156", after := #[], guard := none } : Oper)) (v := ?vzqm5) rfl (by kernel_rfl) (by kernel_rfl) (by kernel_rfl) (fun _ _ _ h => h) (Or.inl ⟨by rfl, fun w hSw => ?hyzqm5⟩) (by assumption) ?rzqm5
                  case hyzqm5 => (try dsimp only at hSw); go_simp; (try with_reducible rfl)
                  (try simp only [Act.put, List.setIfInBounds_toArray, List.set_cons_zero, List.set_cons_succ])
                  refine wpAnyH_take (i := 5) (oi := ({ dst := some 100, op := Op.move (Operand.tmp 11), type := 3, pos := "outright.go:156", after := #[], guard := none } : Oper)) (v := ?vzqm6) rfl (by kernel_rfl) (by kernel_rfl) (by kernel_rfl) (fun _ _ _ h => h) (Or.inl ⟨by rfl, fun w hSw => ?hyzqm6⟩) (by assumption) ?rzqm6
                  case hyzqm6 => (try dsimp only at hSw); go_simp; (try with_reducible rfl)
                  (try simp only [Act.put, List.setIfInBounds_toArray, List.set_cons_zero, List.set_cons_succ])
                  refine wpAnyH_take (i := 6) (oi := ({ dst := some 101, op := Op.indexAddr 39 (Operand.tmp 99) (Operand.tmp 100), type := 0, pos := "outright.go:156", after := #[{ on := 4, ground := Ground.data }, { on := 5, ground := Ground.data }], guard := none } : Oper)) (v := ?vzqm7) rfl (by kernel_rfl) (by kernel_rfl) (by kernel_rfl) (fun _ _ _ h => h) (Or.inl ⟨by rfl, fun w hSw => ?hyzqm7⟩) (by assumption) ?rzqm7
                  case hyzqm7 => (try dsimp only at hSw); go_simp; (try with_reducible rfl)
                  (try simp only [Act.put, List.setIfInBounds_toArray, List.set_cons_zero, List.set_cons_succ])
                  refine wpAnyH_take (i := 7) (oi := ({ dst := some 102, op := Op.load 3 (Operand.tmp 101), type := 3, pos := "outright.go:156", after := #[{ on := 6, ground := Ground.data }], guard := none } : Oper)) (v := ?vzqm8) rfl (by kernel_rfl) (by kernel_rfl) (by kernel_rfl) (fun _ _ _ h => h) (Or.inl ⟨by rfl, fun w hSw => ?hyzqm8⟩) (by assumption) ?rzqm8
                  case hyzqm8 => (try dsimp only at hSw); go_simp; (try with_reducible rfl)
                  (try simp only [Act.put, List.setIfInBounds_toArray, List.set_cons_zero, List.set_cons_succ])
                  refine wpAnyH_take (i := 10) (oi := ({ dst := some 105, op := Op.move (Operand.tmp 11), type := 3, pos := "outright.go:156", after := #[], guard := none } : Oper)) (v := ?vzqm9) rfl (by kernel_rfl) (by kernel_rfl) (by kernel_rfl) (fun _ _ _ h => h) (Or.inl ⟨by rfl, fun w hSw => ?hyzqm9⟩) (by assumption) ?rzqm9
                  case hyzqm9 => (try dsimp only at hSw); go_simp; (try with_reducible rfl)
                  (try simp only [Act.put, List.setIfInBounds_toArray, List.set_cons_zero, List.set_cons_succ])
                  refine wpAnyH_take (i := 11) (oi := ({ dst := some 106, op := Op.move (Operand.tmp 9), type := 3, pos := "outright.go:156", after := #[], guard := none } : Oper)) (v := ?vzqm10) rfl (by kernel_rfl) (by kernel_rfl) (by kernel_rfl) (fun _ _ _ h => h) (Or.inl ⟨by rfl, fun w hSw => ?hyzqm10⟩) (by assumption) ?rzqm10
                  case hyzqm10 => (try dsimp only at hSw); go_simp; (try with_reducible rfl)
                  (try simp only [Act.put, List.setIfInBounds_toArray, List.set_cons_zero, List.set_cons_succ])
                  refine wpAnyH_take (i := 12) (oi := ({ dst := some 107, op := Op.binOp BinOp.leq 3 (Operand.tmp 105) (Operand.tmp 106) 3, type := 4, pos := "outright.go:156", after := #[{ on := 10, ground := Ground.data }, { on := 11, ground := Ground.data }], guard := none } : Oper)) (v := ?vzqm11) rfl (by kernel_rfl) (by kernel_rfl) (by kernel_rfl) (fun _ _ _ h => h) (Or.inl ⟨by rfl, fun w hSw => ?hyzqm11⟩) (by assumption) ?rzqm11
                  case hyzqm11 => (try dsimp only at hSw); go_simp; (try with_reducible rfl)
                  (try simp only [Act.put, List.setIfInBounds_toArray, List.set_cons_zero, List.set_cons_succ])
                  refine wpAnyH_ready (rs := [8]) (by kernel_rfl) (by simp) ?_
                  refine AllReadyH.cons (o := ({ dst := some 103, op := Op.call { callee := Callee.value (Operand.func 11), args := #[Operand.tmp 102], argTypes := #[3] }, type := 3, pos := "outright.go:156", after := #[{ on := 7, ground := Ground.data }], guard := none } : Oper)) rfl (fun Kq hKq => ?_) AllReadyH.nil
                  go_simp
                  (refine (HWD9.out _).mono ?_; rintro e w8 ⟨rfl, rfl⟩)
                  refine hKq.out _ _ ?_ (fun hHeld => ?_)
                  · exact hHeld
                  clear hKq Kq
                  (try simp only [Act.put, List.setIfInBounds_toArray, List.set_cons_zero, List.set_cons_succ])
                  refine wpAnyH_ready (rs := [9]) (by kernel_rfl) (by simp) ?_
                  refine AllReadyH.cons (o := ({ dst := some 104, op := Op.call { callee := Callee.value (Operand.func 10), args := #[Operand.tmp 98, Operand.tmp 103, Operand.const (Value.int IntKind.u64 0)], argTypes := #[29, 3, 26] }, type := 4, pos := "outright.go:156", after := #[{ on := 3, ground := Ground.data }, { on := 8, ground := Ground.data }, { on := 8, ground := Ground.chain }], guard := none } : Oper)) rfl (fun Kq hKq => ?_) AllReadyH.nil
                  go_simp
                  (refine (HGO.out _ hHeld.1).mono ?_; rintro e w9 ⟨rfl, hb9⟩; have HB9 := Lib.hid hb9; clear hb9)
                  refine hKq.out _ _ ?_ (fun hHeld => ?_)
                  · exact ⟨hHeld.1.trans (HB9.out.mono hHeld.1.size), bcell HB9.out hHeld.2.1, bcell HB9.out hHeld.2.2⟩
                  clear hKq Kq
                  (try simp only [Act.put, List.setIfInBounds_toArray, List.set_cons_zero, List.set_cons_succ])
                  refine wpAnyH_take (i := 13) (oi := ({ dst := some 108, op := Op.binOp BinOp.neq 4 (Operand.tmp 104) (Operand.tmp 107) 4, type := 4, pos := "outright.go:156", after := #[{ on := 9, ground := Ground.data }, { on := 12, ground := Ground.data }], guard := none } : Oper)) (v := ?vzqm12) rfl (by kernel_rfl) (by kernel_rfl) (by kernel_rfl) (fun _ _ _ h => h) (Or.inl ⟨by rfl, fun w hSw => ?hyzqm12⟩) (by assumption) ?rzqm12
                  case hyzqm12 => (try dsimp only at hSw); go_simp; (try with_reducible rfl)
                  (try simp only [Act.put, List.setIfInBounds_toArray, List.set_cons_zero, List.set_cons_succ])
                  refine wpAnyH_done (by kernel_rfl) ?_ _
                  clear hHeld
                  go_wp2_with fail
                  go_roundg (D.length - (k + 1))
                  case measure => have := HK.out; omega
                  case rel => exact ⟨k + 1, by have := HK.out; omega, rfl, by go_num, HBY.out.drew.trans (HB9.out.mono HBY.out.size)⟩
                · obtain rfl : k = D.length := by omega
                  have d9 : decide ((D.length : Int) < (D.length : Int)) = false := by simp
                  have HBY := Lib.hid hby
                  clear hk1 hk hby
                  go_wp2_with fail
                  go_meet
                  exact HBY.out
            case rest =>
              have H7 := Lib.hid (H6.out.new hcut)
              clear hcut
              have x0 := H7.out.c.1
              have hor := pg_or H7.out (by have := HN.out.2.2.2.2.2.1; omega)
              have HOR := Lib.hid hor
              have hlt5 : (i : Int) < (D.length : Int) := by omega
              have dlt : decide ((i : Int) < (D.length : Int)) = true := decide_eq_true hlt5
              have HLT := Lib.hid hlt
              clear hor hlt
              go_wp2_with (go_at_call 12; refine HOR.out.mono ?_; rintro e w8 ⟨⟨ov, rfl⟩, X8, h8⟩; have H8 := Lib.hid h8; clear h8)
              go_roundg (D.length + 1 - (i + 1))
              case measure => have := HLT.out; omega
              case rel => exact ⟨i + 1, by have := HLT.out; omega, rfl, by go_num, _, X8, fun _ => HN.out.2.2.2.1 HLT.out, fun e => by have := HLT.out; omega, by have := HN.out.2.2.2.2.2.1; show M2.n + 1 ≤ _; omega, by have := HN.out.2.2.2.2.2.2; show M2.pn ≤ _; omega, H8.out⟩
          · obtain rfl : i = D.length := by have := HI.out; omega
            have HZ := Lib.hid (HN.out.2.2.2.2.1 rfl)
            have hn9 : n = 1 := HN.out.2.1 rfl
            subst hn9
            have d11 : decide ((D.length : Int) ≤ (D.length : Int)) = true := d5
            go_upto_region 25 with (fail)
            go_upto_block 6 with fail
            go_cut [11] from 89 to 108 (fun s11 wy => Below wo.heap.size wo wy)
            case first =>
              go_wp2_with fail
              go_loopg [11] D.length (fun q s11 wy => ∃ k : Nat, k ≤ D.length ∧ q = D.length - k ∧ s11 = .int .i64 (k : Int) ∧ Below wo.heap.size wo wy)
              case atStart => exact ⟨0, by omega, by omega, rfl, Below.refl _ _⟩
              case round =>
                obtain ⟨k, hk1, rfl, rfl, hby⟩ := hrel
                by_cases hk : k < D.length
                · obtain ⟨g, o, cap2, hv, hcs⟩ := row_at (pg_row H6.out) hk
                  injection hv with hv1 hv2 hv3
                  have c0 := bcell hby (hcs k hk)
                  have c2 := bcell hby (pg_c2 H6.out)
                  have hlt9 := HN.out.2.2.1 k hk
                  have hk64 : D[k]! < 64 := (HDL.out k hk)
                  obtain ⟨dk, hdk⟩ : ∃ dk, dk = D[k]! := ⟨_, rfl⟩
                  rw [← hdk] at c0 hk64 hlt9
                  have hgo : ∀ W, Below wo.heap.size wo W → Calls Try.prog 10 #[Pw X6.pB, .int .i64 ((2 * dk + 1 : Nat) : Int), .int .u64 0] W fun e w' => e = .returned (.bool (decide (k < D.length + 1))) ∧ Below W.heap.size W w' := fun W hW => by
                    have hh := H6.out.new hW
                    have := S4.pgoes_yes hh.pw.permits (i := 2 * dk + 1) (by omega) 0
                    rw [show X6.pf = M2.pf from congrArg Sd.pf hh.xm, hlt9] at this
                    have hg : S4.goesB ⟨decide (k < D.length + 1), true, false, 0⟩ 0 = decide (k < D.length + 1) := by
                      unfold S4.goesB
                      rw [decide_eq_false (fun e => by have h : true = false := congrArg S4.Pk.a e; cases h), Bool.false_or, Bool.false_and, Bool.or_false]
                    rw [hg] at this
                    exact this
                  have HGO := Lib.hid hgo
                  have HWD9 := Lib.hid (HWD.out dk hk64)
                  have hk5 : (k : Int) < (D.length : Int) := by omega
                  have hle9 : decide ((k : Int) ≤ (D.length : Int)) = decide (k < D.length + 1) := by
                    by_cases h : k < D.length + 1
                    · rw [decide_eq_true h, decide_eq_true (by omega)]
                    · rw [decide_eq_false h, decide_eq_false (by omega)]
                  have hle8 : decide (k ≤ D.length) = decide (k < D.length + 1) := by
                    by_cases h : k < D.length + 1
                    · rw [decide_eq_true h, decide_eq_true (by omega)]
                    · rw [decide_eq_false h, decide_eq_false (by omega)]
                  have hk100 : k + 1 ≤ 1000 := by have := HD.out; omega
                  have HK := Lib.hid hk; have HBY := Lib.hid hby
                  clear hcs hv3 hk1 hk hgo hlt9 hk64 hby hdk
                  subst hv1
                  obtain ⟨bb, hbb⟩ : ∃ bb, bb = decide (k < D.length + 1) := ⟨_, rfl⟩
                  rw [← hbb] at HGO hle9 hle8
                  clear hbb
                  have HF : Hid ((fun w' => Below wo.heap.size wo w' ∧ w'.cell? ⟨WB, 2, none⟩ = some (Pw X6.pB) ∧ w'.cell? ⟨g, o + k, none⟩ = some (.int .i64 (dk : Int))) wr.drew) := Lib.hid ⟨HBY.out.drew, c2, c0⟩
                  go_upto_region 28 with (fail)
                  refine wp_region_held_drew (S := fun w' => Below wo.heap.size wo w' ∧ w'.cell? ⟨WB, 2, none⟩ = some (Pw X6.pB) ∧ w'.cell? ⟨g, o + k, none⟩ = some (.int .i64 (dk : Int))) (by kernel_rfl) ?_ (fun hHeld => ?_)
                  · exact HF.out
                  refine wpAnyH_take (i := 0) (oi := ({ dst := some 95, op := Op.move (Operand.tmp 3), type := 23, pos := "outright.go:156", after := #[], guard := none } : Oper)) (v := ?vyqm1) rfl (by kernel_rfl) (by kernel_rfl) (by kernel_rfl) (fun _ _ _ h => h) (Or.inl ⟨by rfl, fun w hSw => ?hyyqm1⟩) (by assumption) ?ryqm1
                  case hyyqm1 => (try dsimp only at hSw); go_simp; (try with_reducible rfl)
                  (try simp only [Act.put, List.setIfInBounds_toArray, List.set_cons_zero, List.set_cons_succ])
                  refine wpAnyH_take (i := 1) (oi := ({ dst := some 96, op := Op.nilCheck (Operand.tmp 95), type := 0, pos := "outright.go:156", after := #[{ on := 0, ground := Ground.data }], guard := none } : Oper)) (v := ?vyqm2) rfl (by kernel_rfl) (by kernel_rfl) (by kernel_rfl) (fun _ _ _ h => h) (Or.inl ⟨by rfl, fun w hSw => ?hyyqm2⟩) (by assumption) ?ryqm2
                  case hyyqm2 => (try dsimp only at hSw); go_simp; (try with_reducible rfl)
                  (try simp only [Act.put, List.setIfInBounds_toArray, List.set_cons_zero, List.set_cons_succ])
                  refine wpAnyH_take (i := 2) (oi := ({ dst := some 97, op := Op.fieldAddr 35 (Operand.tmp 96) 2, type := 0, pos := "outright.go:156", after := #[{ on := 1, ground := Ground.data }], guard := none } : Oper)) (v := ?vyqm3) rfl (by kernel_rfl) (by kernel_rfl) (by kernel_rfl) (fun _ _ _ h => h) (Or.inl ⟨by rfl, fun w hSw => ?hyyqm3⟩) (by assumption) ?ryqm3
                  case hyyqm3 => (try dsimp only at hSw); go_simp; (try with_reducible rfl)
                  (try simp only [Act.put, List.setIfInBounds_toArray, List.set_cons_zero, List.set_cons_succ])
                  refine wpAnyH_take (i := 3) (oi := ({ dst := some 98, op := Op.load 29 (Operand.tmp 97), type := 29, pos := "outright.go:156", after := #[{ on := 2, ground := Ground.data }], guard := none } : Oper)) (v := ?vyqm4) rfl (by kernel_rfl) (by kernel_rfl) (by kernel_rfl) (fun _ _ _ h => h) (Or.inl ⟨by rfl, fun w hSw => ?hyyqm4⟩) (by assumption) ?ryqm4
                  case hyyqm4 => (try dsimp only at hSw); go_simp; (try with_reducible rfl)
                  (try simp only [Act.put, List.setIfInBounds_toArray, List.set_cons_zero, List.set_cons_succ])
                  refine wpAnyH_take (i := 4) (oi := ({ dst := some 99, op := Op.move (Operand.tmp 4), type := 39, pos := "outright.go:156", after := #[], guard := none } : Oper)) (v := ?vyqm5) rfl (by kernel_rfl) (by kernel_rfl) (by kernel_rfl) (fun _ _ _ h => h) (Or.inl ⟨by rfl, fun w hSw => ?hyyqm5⟩) (by assumption) ?ryqm5
                  case hyyqm5 => (try dsimp only at hSw); go_simp; (try with_reducible rfl)
                  (try simp only [Act.put, List.setIfInBounds_toArray, List.set_cons_zero, List.set_cons_succ])
                  refine wpAnyH_take (i := 5) (oi := ({ dst := some 100, op := Op.move (Operand.tmp 11), type := 3, pos := "outright.go:156", after := #[], guard := none } : Oper)) (v := ?vyqm6) rfl (by kernel_rfl) (by kernel_rfl) (by kernel_rfl) (fun _ _ _ h => h) (Or.inl ⟨by rfl, fun w hSw => ?hyyqm6⟩) (by assumption) ?ryqm6
                  case hyyqm6 => (try dsimp only at hSw); go_simp; (try with_reducible rfl)
                  (try simp only [Act.put, List.setIfInBounds_toArray, List.set_cons_zero, List.set_cons_succ])
                  refine wpAnyH_take (i := 6) (oi := ({ dst := some 101, op := Op.indexAddr 39 (Operand.tmp 99) (Operand.tmp 100), type := 0, pos := "outright.go:156", after := #[{ on := 4, ground := Ground.data }, { on := 5, ground := Ground.data }], guard := none } : Oper)) (v := ?vyqm7) rfl (by kernel_rfl) (by kernel_rfl) (by kernel_rfl) (fun _ _ _ h => h) (Or.inl ⟨by rfl, fun w hSw => ?hyyqm7⟩) (by assumption) ?ryqm7
                  case hyyqm7 => (try dsimp only at hSw); go_simp; (try with_reducible rfl)
                  (try simp only [Act.put, List.setIfInBounds_toArray, List.set_cons_zero, List.set_cons_succ])
                  refine wpAnyH_take (i := 7) (oi := ({ dst := some 102, op := Op.load 3 (Operand.tmp 101), type := 3, pos := "outright.go:156", after := #[{ on := 6, ground := Ground.data }], guard := none } : Oper)) (v := ?vyqm8) rfl (by kernel_rfl) (by kernel_rfl) (by kernel_rfl) (fun _ _ _ h => h) (Or.inl ⟨by rfl, fun w hSw => ?hyyqm8⟩) (by assumption) ?ryqm8
                  case hyyqm8 => (try dsimp only at hSw); go_simp; (try with_reducible rfl)
                  (try simp only [Act.put, List.setIfInBounds_toArray, List.set_cons_zero, List.set_cons_succ])
                  refine wpAnyH_take (i := 10) (oi := ({ dst := some 105, op := Op.move (Operand.tmp 11), type := 3, pos := "outright.go:156", after := #[], guard := none } : Oper)) (v := ?vyqm9) rfl (by kernel_rfl) (by kernel_rfl) (by kernel_rfl) (fun _ _ _ h => h) (Or.inl ⟨by rfl, fun w hSw => ?hyyqm9⟩) (by assumption) ?ryqm9
                  case hyyqm9 => (try dsimp only at hSw); go_simp; (try with_reducible rfl)
                  (try simp only [Act.put, List.setIfInBounds_toArray, List.set_cons_zero, List.set_cons_succ])
                  refine wpAnyH_take (i := 11) (oi := ({ dst := some 106, op := Op.move (Operand.tmp 9), type := 3, pos := "outright.go:156", after := #[], guard := none } : Oper)) (v := ?vyqm10) rfl (by kernel_rfl) (by kernel_rfl) (by kernel_rfl) (fun _ _ _ h => h) (Or.inl ⟨by rfl, fun w hSw => ?hyyqm10⟩) (by assumption) ?ryqm10
                  case hyyqm10 => (try dsimp only at hSw); go_simp; (try with_reducible rfl)
                  (try simp only [Act.put, List.setIfInBounds_toArray, List.set_cons_zero, List.set_cons_succ])
                  refine wpAnyH_take (i := 12) (oi := ({ dst := some 107, op := Op.binOp BinOp.leq 3 (Operand.tmp 105) (Operand.tmp 106) 3, type := 4, pos := "outright.go:156", after := #[{ on := 10, ground := Ground.data }, { on := 11, ground := Ground.data }], guard := none } : Oper)) (v := ?vyqm11) rfl (by kernel_rfl) (by kernel_rfl) (by kernel_rfl) (fun _ _ _ h => h) (Or.inl ⟨by rfl, fun w hSw => ?hyyqm11⟩) (by assumption) ?ryqm11
                  case hyyqm11 => (try dsimp only at hSw); go_simp; (try with_reducible rfl)
                  (try simp only [Act.put, List.setIfInBounds_toArray, List.set_cons_zero, List.set_cons_succ])
                  refine wpAnyH_ready (rs := [8]) (by kernel_rfl) (by simp) ?_
                  refine AllReadyH.cons (o := ({ dst := some 103, op := Op.call { callee := Callee.value (Operand.func 11), args := #[Operand.tmp 102], argTypes := #[3] }, type := 3, pos := "outright.go:156", after := #[{ on := 7, ground := Ground.data }], guard := none } : Oper)) rfl (fun Kq hKq => ?_) AllReadyH.nil
                  go_simp
                  (refine (HWD9.out _).mono ?_; rintro e w8 ⟨rfl, rfl⟩)
                  refine hKq.out _ _ ?_ (fun hHeld => ?_)
                  · exact hHeld
                  clear hKq Kq
                  (try simp only [Act.put, List.setIfInBounds_toArray, List.set_cons_zero, List.set_cons_succ])
                  refine wpAnyH_ready (rs := [9]) (by kernel_rfl) (by simp) ?_
                  refine AllReadyH.cons (o := ({ dst := some 104, op := Op.call { callee := Callee.value (Operand.func 10), args := #[Operand.tmp 98, Operand.tmp 103, Operand.const (Value.int IntKind.u64 0)], argTypes := #[29, 3, 26] }, type := 4, pos := "outright.go:156", after := #[{ on := 3, ground := Ground.data }, { on := 8, ground := Ground.data }, { on := 8, ground := Ground.chain }], guard := none } : Oper)) rfl (fun Kq hKq => ?_) AllReadyH.nil
                  go_simp
                  (refine (HGO.out _ hHeld.1).mono ?_; rintro e w9 ⟨rfl, hb9⟩; have HB9 := Lib.hid hb9; clear hb9)
                  refine hKq.out _ _ ?_ (fun hHeld => ?_)
                  · exact ⟨hHeld.1.trans (HB9.out.mono hHeld.1.size), bcell HB9.out hHeld.2.1, bcell HB9.out hHeld.2.2⟩
                  clear hKq Kq
                  (try simp only [Act.put, List.setIfInBounds_toArray, List.set_cons_zero, List.set_cons_succ])
                  refine wpAnyH_take (i := 13) (oi := ({ dst := some 108, op := Op.binOp BinOp.neq 4 (Operand.tmp 104) (Operand.tmp 107) 4, type := 4, pos := "outright.go:156", after := #[{ on := 9, ground := Ground.data }, { on := 12, ground := Ground.data }], guard := none } : Oper)) (v := ?vyqm12) rfl (by kernel_rfl) (by kernel_rfl) (by kernel_rfl) (fun _ _ _ h => h) (Or.inl ⟨by rfl, fun w hSw => ?hyyqm12⟩) (by assumption) ?ryqm12
                  case hyyqm12 => (try dsimp only at hSw); go_simp; (try with_reducible rfl)
                  (try simp only [Act.put, List.setIfInBounds_toArray, List.set_cons_zero, List.set_cons_succ])
                  refine wpAnyH_done (by kernel_rfl) ?_ _
                  clear hHeld
                  go_wp2_with fail
                  go_roundg (D.length - (k + 1))
                  case measure => have := HK.out; omega
                  case rel => exact ⟨k + 1, by have := HK.out; omega, rfl, by go_num, HBY.out.drew.trans (HB9.out.mono HBY.out.size)⟩
                · obtain rfl : k = D.length := by omega
                  have d9 : decide ((D.length : Int) < (D.length : Int)) = false := by simp
                  have HBY := Lib.hid hby
                  clear hk1 hk hby
                  go_wp2_with fail
                  go_meet
                  exact HBY.out
            case rest =>
              have H7 := Lib.hid (H6.out.new hcut)
              clear hcut
              have dlt : decide ((D.length : Int) < (D.length : Int)) = false := by simp
              go_wp2_with fail
              go_roundg (D.length + 1 - (D.length + 1))
              case measure => omega
              case rel => exact ⟨D.length + 1, by omega, rfl, by go_num, M2, X6, fun e => by omega, fun _ => HZ.out, by have := HN.out.2.2.2.2.2.1; omega, by have := HN.out.2.2.2.2.2.2; omega, H7.out⟩
        · obtain rfl : i = D.length + 1 := by omega
          have HFIN : Hid (LB w WB D (D.length + 1) (.slice A' D.length cap) wr) := Lib.hid ⟨M, X, hfs, hz, hn, hp, hpg⟩
          have d5 : decide (((D.length + 1 : Nat) : Int) ≤ (D.length : Int)) = false := by rw [decide_eq_false_iff_not]; omega
          have hi5 : ¬ ((D.length + 1 : Nat) : Int) ≤ (D.length : Int) := by omega
          clear hfs hz hn hp hpg hi1 hin
          go_wp2_with fail
          go_meet
          exact HFIN.out
    case rest =>
      obtain ⟨M, X, _, hz, _, _, hpg⟩ := hcut
      have x0 := hpg.c.1
      have hpk : ∀ W, Pg w W w.heap.size WB M [rowQ w.heap.size (.slice A' D.length cap) D] X → Calls Try.prog 13 #[Pw X.cB, .int .u32 267] W fun e w' => e = .returned (.int .u64 0) ∧ W = w' := fun W hW => by
        have := S2.peek_any _ X.cB X.cM X.L X.n X.k X.a X.was X.is 267 hW.pw.cells (by omega)
        rw [show X.L = M.L from congrArg Sd.L hW.xm, hz rfl] at this
        exact this
      have HPK := Lib.hid (hpk _ hpg); have HB := Lib.hid hpg.bl
      clear hpk hpg hz HLB
      go_wp2_with (first
        | (go_at_call 13; refine HPK.out.mono ?_; rintro e w5 ⟨rfl, rfl⟩)
        | (go_at_call 5; refine (HLV.out _).mono ?_; rintro e w6 ⟨rfl, hb6⟩; have HB6 := Lib.hid hb6; clear hb6))
      go_ret
      exact ⟨rfl, HB.out.trans (HB6.out.mono HB.out.size)⟩
end Go.Proofs.Ytionigofajdkdaa.S14
