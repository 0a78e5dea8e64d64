/- Texts of this seat, one behind the other. -/
import Derived.Test.YtieiiabbeglmfaaGreatDoorMLawOldest201
import Derived.Test.YtieiiabbeglmfaaGreatDoorMLawOldest2021
set_option linter.unusedVariables false
set_option linter.unusedSimpArgs false
set_option linter.unusedVariables false
set_option linter.unusedSimpArgs false
namespace Go.Proofs.YtieiiabbeglmfaaGreatDoor.S14
set_option maxRecDepth 100000
set_option maxHeartbeats 16000000
open Go.Proofs.YtieiiabbeglmfaaGreatDoor Go.Proofs.YtieiiabbeglmfaaGreatDoor.S11 Go.Proofs.YtieiiabbeglmfaaGreatDoor.S12 Go.Proofs.YtieiiabbeglmfaaGreatDoor.S13
open Go.RowKit
section
variable {w0 w w' : World} {base WB : Nat} {M : Sd} {r : List Part} {j B : Nat} {K : Fr} {X : Wm}
theorem Wf.held {Q cb : Nat} {l2 q2 : Bool} {h2 : Int} (h : Wf w0 w base WB M (r ++ [blockP Q (.cells #[.bool l2, .bool q2, .int .i64 h2] 339)]) j B K X) (hj : j < r.length) (hc : X.cB = cb) :
    w.cell? ⟨WB, 0, none⟩ = some (Pw cb) ∧ w.cell? ⟨B, 1, none⟩ = some (.int .u32 (K.a : Int)) ∧ w.cell? ⟨B, 2, none⟩ = some (.bool K.l) ∧ w.cell? ⟨B, 3, none⟩ = some (.bool K.q) ∧ w.cell? ⟨B, 4, none⟩ = some (.int .i64 K.h) ∧ w.cell? ⟨Q, 0, none⟩ = some (.bool l2) ∧ w.cell? ⟨Q, 1, none⟩ = some (.bool q2) ∧ w.cell? ⟨Q, 2, none⟩ = some (.int .i64 h2) := by
  have hl := h.last hj
  subst hc
  exact ⟨h.pg.c.1, h.b1, h.b2, h.b3, h.b4, cell_row hl 0, cell_row hl 1, cell_row hl 2⟩
def Fr.cas (K : Fr) (x was : Nat) (l2 q2 : Bool) (h2 : Int) : Fr := if x = was then { K with l := l2, q := q2, h := h2 } else { K with l := S1.bitB x 0, q := S1.bitB x 1, h := S1.headN x }
theorem swapped_f (h : Wf w0 w base WB M r j B K X) (ha : K.a < 4294967296) (hn : M.n ≤ 1000000000) (hi : S1.isHead K.h) {was : Nat} (hw : S1.putU K.l K.q K.h = was) {l2 q2 : Bool} {h2 : Int} (hi2 : S1.isHead h2) :
    Calls Tryz.prog 208 #[Pw B, Pw WB, .agg #[.bool l2, .bool q2, .int .i64 h2]] w fun e w' => e = .returned (.bool (decide (S2.look M.L K.a = was))) ∧ ∃ X', Wf w0 w' base WB (M.acc 3 K.a (S2.casV (S2.look M.L K.a) was (S1.putU l2 q2 h2))) r j B (K.cas (S2.look M.L K.a) was l2 q2 h2) X' := by
  have hj := h.hj
  have hA := h.pushB (.cells #[.bool l2, .bool q2, .int .i64 h2] 339)
  obtain ⟨Q, hQ⟩ : ∃ Q, Q = w.heap.size := ⟨_, rfl⟩
  rw [← hQ] at hA
  have HA := Lib.hid hA; have HJ := Lib.hid hj; have HQ := Lib.hid hQ
  obtain ⟨cb, hcb⟩ : ∃ cb, X.cB = cb := ⟨_, rfl⟩
  have HCB := Lib.hid hcb
  have HPA := Lib.hid (fun W => S1.putU_any K.l K.q K.h hi W)
  have HPB := Lib.hid (fun W => S1.putU_any l2 q2 h2 hi2 W)
  obtain ⟨x, hx⟩ : ∃ x, x = S2.look M.L K.a := ⟨_, rfl⟩
  have hxl : x < 18446744073709551616 := by rw [hx]; exact h.look K.a
  have HAS := Lib.hid (fun W => S1.as_any x hxl W)
  obtain ⟨is, his⟩ : ∃ is, is = S1.putU l2 q2 h2 := ⟨_, rfl⟩
  have hcs : ∀ W X', Wf w0 W base WB M (r ++ [blockP Q (.cells #[.bool l2, .bool q2, .int .i64 h2] 339)]) j B K X' → X'.cB = cb → Calls Tryz.prog 245 #[Pw cb, .int .u32 (K.a : Int), .int .u64 (was : Int), .int .u64 (is : Int)] W fun e w' => e = .returned (.tuple #[.int .u64 (x : Int), .bool (decide (x = was))]) ∧ ∃ X5, Wf w0 w' base WB (M.acc 3 K.a (S2.casV x was is)) (r ++ [blockP Q (.cells #[.bool l2, .bool q2, .int .i64 h2] 339)]) j B K X5 ∧ X5.cB = cb := fun W X' hW hc => by
    subst hc
    rw [hx]
    refine (hW.pg.cas ha (by rw [his]; exact S1.putU_lt _ _ _) hn (u := was)).mono ?_
    rintro e w' ⟨rfl, X5, h5, hcb5⟩
    exact ⟨rfl, X5, ⟨h5, hW.hj⟩, hcb5⟩
  have HCS := Lib.hid hcs
  rw [hw] at HPA
  rw [← his] at HPB
  rw [← hx, ← his]
  clear h hj hA hQ hcb hi hi2 hw hx hxl his hcs ha hn
  go_enter Tryz.func208, Tryz.ntmps208
  go_upto_region 1 with (fail)
  rw [← HQ.out]
  generalize w.alloc (.cells #[.bool l2, .bool q2, .int .i64 h2] 339) = w1 at *
  refine wp_region_held_drew (S := fun w' => w'.cell? ⟨WB, 0, none⟩ = some (Pw cb) ∧ w'.cell? ⟨B, 1, none⟩ = some (.int .u32 (K.a : Int)) ∧ w'.cell? ⟨B, 2, none⟩ = some (.bool K.l) ∧ w'.cell? ⟨B, 3, none⟩ = some (.bool K.q) ∧ w'.cell? ⟨B, 4, none⟩ = some (.int .i64 K.h) ∧ w'.cell? ⟨Q, 0, none⟩ = some (.bool l2) ∧ w'.cell? ⟨Q, 1, none⟩ = some (.bool q2) ∧ w'.cell? ⟨Q, 2, none⟩ = some (.int .i64 h2)) (by kernel_rfl) ?_ (fun hHeld => ?_)
  · exact (HA.out.new (Below.refl _ _).drew).held HJ.out HCB.out
  refine tA 0 ⟨some 10, .move (.tmp 1), 24, "wordfrees.go:122", #[], none⟩ ?vsm1 ?rsm1
  (try simp only [Act.put, tC, tD, tE])
  refine tA 1 ⟨some 11, .nilCheck (.tmp 10), 0, "wordfrees.go:122", #[⟨0, .data⟩], none⟩ ?vsm2 ?rsm2
  (try simp only [Act.put, tC, tD, tE])
  refine tA 2 ⟨some 12, .fieldAddr 47 (.tmp 11) 0, 0, "wordfrees.go:122", #[⟨1, .data⟩], none⟩ ?vsm3 ?rsm3
  (try simp only [Act.put, tC, tD, tE])
  refine tA 3 ⟨some 13, .load 39 (.tmp 12), 39, "wordfrees.go:122", #[⟨2, .data⟩], none⟩ ?vsm4 ?rsm4
  (try simp only [Act.put, tC, tD, tE])
  refine tA 4 ⟨some 14, .move (.tmp 0), 73, "wordfrees.go:122", #[], none⟩ ?vsm5 ?rsm5
  (try simp only [Act.put, tC, tD, tE])
  refine tA 5 ⟨some 15, .nilCheck (.tmp 14), 0, "wordfrees.go:122", #[⟨4, .data⟩], none⟩ ?vsm6 ?rsm6
  (try simp only [Act.put, tC, tD, tE])
  refine tA 6 ⟨some 16, .fieldAddr 343 (.tmp 15) 1, 0, "wordfrees.go:122", #[⟨5, .data⟩], none⟩ ?vsm7 ?rsm7
  (try simp only [Act.put, tC, tD, tE])
  refine tA 7 ⟨some 17, .load 35 (.tmp 16), 35, "wordfrees.go:122", #[⟨6, .data⟩], none⟩ ?vsm8 ?rsm8
  (try simp only [Act.put, tC, tD, tE])
  refine tA 8 ⟨some 18, .move (.tmp 0), 73, "wordfrees.go:122", #[], none⟩ ?vsm9 ?rsm9
  (try simp only [Act.put, tC, tD, tE])
  refine tA 9 ⟨some 19, .nilCheck (.tmp 18), 0, "wordfrees.go:122", #[⟨8, .data⟩], none⟩ ?vsm10 ?rsm10
  (try simp only [Act.put, tC, tD, tE])
  refine tA 10 ⟨some 20, .fieldAddr 343 (.tmp 19) 2, 0, "wordfrees.go:122", #[⟨9, .data⟩], none⟩ ?vsm11 ?rsm11
  (try simp only [Act.put, tC, tD, tE])
  refine tA 11 ⟨some 21, .fieldAddr 341 (.tmp 20) 0, 0, "wordfrees.go:122", #[⟨10, .data⟩], none⟩ ?vsm12 ?rsm12
  (try simp only [Act.put, tC, tD, tE])
  refine tA 12 ⟨some 22, .load 339 (.tmp 21), 339, "wordfrees.go:122", #[⟨11, .data⟩], none⟩ ?vsm13 ?rsm13
  (try simp only [Act.put, tC, tD, tE])
  refine tA 14 ⟨some 24, .load 339 (.tmp 5), 339, "wordfrees.go:122", #[], none⟩ ?vsm14 ?rsm14
  (try simp only [Act.put, tC, tD, tE])
  refine wpAnyH_ready (rs := [13]) (by kernel_rfl) (by simp) ?_
  refine AllReadyH.cons (o := ⟨some 23, .call ⟨.value (.func 210), #[.tmp 22], #[339]⟩, 23, "wordfrees.go:122", #[⟨12, .data⟩], none⟩) rfl (fun Kq hKq => ?_) AllReadyH.nil
  go_simp
  (refine (HPA.out _).mono ?_; rintro e w3 ⟨rfl, hb3⟩; have H3 := Lib.hid ((HA.out.new (Below.refl _ _).drew).new hb3); clear hb3)
  refine hKq.out _ _ ?_ (fun hHeld => ?_)
  · exact H3.out.held HJ.out HCB.out
  clear hKq Kq
  (try simp only [Act.put, tC, tD, tE])
  refine wpAnyH_ready (rs := [15]) (by kernel_rfl) (by simp) ?_
  refine AllReadyH.cons (o := ⟨some 25, .call ⟨.value (.func 210), #[.tmp 24], #[339]⟩, 23, "wordfrees.go:122", #[⟨14, .data⟩, ⟨13, .chain⟩], none⟩) rfl (fun Kq hKq => ?_) AllReadyH.nil
  go_simp
  (refine (HPB.out _).mono ?_; rintro e w4 ⟨rfl, hb4⟩; have H4 := Lib.hid (H3.out.new hb4); clear hb4)
  refine hKq.out _ _ ?_ (fun hHeld => ?_)
  · exact H4.out.held HJ.out HCB.out
  clear hKq Kq
  (try simp only [Act.put, tC, tD, tE])
  refine wpAnyH_ready (rs := [16]) (by kernel_rfl) (by simp) ?_
  refine AllReadyH.cons (o := ⟨some 26, .call ⟨.value (.func 245), #[.tmp 13, .tmp 17, .tmp 23, .tmp 25], #[39, 35, 23, 23]⟩, 393, "wordfrees.go:122", #[⟨3, .data⟩, ⟨7, .data⟩, ⟨13, .data⟩, ⟨15, .data⟩, ⟨15, .chain⟩], none⟩) rfl (fun Kq hKq => ?_) AllReadyH.nil
  go_simp
  (refine (HCS.out w4 X H4.out HCB.out).mono ?_; rintro e w5 ⟨rfl, X5, h5, hcb5⟩; have H5 := Lib.hid h5; have HCB5 := Lib.hid hcb5; clear h5 hcb5)
  refine hKq.out _ _ ?_ (fun hHeld => ?_)
  · exact H5.out.held HJ.out HCB5.out
  clear hKq Kq
  (try simp only [Act.put, tC, tD, tE])
  refine tA 17 ⟨some 9, .move (.tmp 26), 393, "wordfrees.go:122", #[⟨16, .data⟩], none⟩ ?vsm15 ?rsm15
  (try simp only [Act.put, tC, tD, tE])
  refine tA 18 ⟨some 27, .extract (.tmp 9) 0, 23, "wordfrees.go:122", #[⟨17, .data⟩], none⟩ ?vsm16 ?rsm16
  (try simp only [Act.put, tC, tD, tE])
  refine tA 19 ⟨some 28, .extract (.tmp 9) 1, 4, "wordfrees.go:122", #[⟨17, .data⟩, ⟨20, .gcOnly .lateStores⟩], none⟩ ?vsm17 ?rsm17
  (try simp only [Act.put, tC, tD, tE])
  refine tA 20 ⟨some 7, .assign (.tmp 27), 23, "wordfrees.go:122", #[⟨18, .data⟩, ⟨16, .chain⟩, ⟨0, .phase⟩, ⟨1, .phase⟩, ⟨2, .phase⟩, ⟨3, .phase⟩, ⟨4, .phase⟩, ⟨5, .phase⟩, ⟨6, .phase⟩, ⟨7, .phase⟩, ⟨8, .phase⟩, ⟨9, .phase⟩, ⟨10, .phase⟩, ⟨11, .phase⟩, ⟨12, .phase⟩, ⟨13, .phase⟩, ⟨14, .phase⟩, ⟨15, .phase⟩, ⟨16, .phase⟩, ⟨17, .phase⟩, ⟨18, .phase⟩, ⟨19, .textOnly .lateStores⟩], none⟩ ?vsm18 ?rsm18
  (try simp only [Act.put, tC, tD, tE])
  refine tA 21 ⟨some 8, .assign (.tmp 28), 4, "wordfrees.go:122", #[⟨19, .data⟩, ⟨20, .chain⟩, ⟨0, .phase⟩, ⟨1, .phase⟩, ⟨2, .phase⟩, ⟨3, .phase⟩, ⟨4, .phase⟩, ⟨5, .phase⟩, ⟨6, .phase⟩, ⟨7, .phase⟩, ⟨8, .phase⟩, ⟨9, .phase⟩, ⟨10, .phase⟩, ⟨11, .phase⟩, ⟨12, .phase⟩, ⟨13, .phase⟩, ⟨14, .phase⟩, ⟨15, .phase⟩, ⟨16, .phase⟩, ⟨17, .phase⟩, ⟨18, .phase⟩, ⟨19, .phase⟩, ⟨20, .phase⟩], none⟩ ?vsm19 ?rsm19
  (try simp only [Act.put, tC, tD, tE])
  refine wpAnyH_done (by kernel_rfl) ?_ _
  clear hHeld HPA HPB HCS HA H3 H4
  obtain ⟨a1, a2, a3, a4, a5, a6, a7, a8⟩ := H5.out.held HJ.out HCB5.out
  have f2 := H5.out.fz 2; have f3 := H5.out.fz 3; have f4 := H5.out.fz 4
  by_cases e : x = was
  · have hd : decide (x = was) = true := decide_eq_true e
    have hk : K.cas x was l2 q2 h2 = { K with l := l2, q := q2, h := h2 } := if_pos e
    rw [hd]
    have HK := Lib.hid hk
    clear hk hd HAS
    go_wp2_with fail
    go_ret
    exact ⟨by rw [decide_eq_true e]; rfl, X5, by rw [HK.out]; exact (H5.out.word l2 q2 h2 K.w).dropB HJ.out⟩
  · have hd : decide (x = was) = false := decide_eq_false e
    have hk : K.cas x was l2 q2 h2 = { K with l := S1.bitB x 0, q := S1.bitB x 1, h := S1.headN x } := if_neg e
    rw [hd]
    have HK := Lib.hid hk
    unfold S1.asV at HAS
    obtain ⟨b0, hb0⟩ : ∃ b, b = S1.bitB x 0 := ⟨_, rfl⟩
    obtain ⟨b1, hb1⟩ : ∃ b, b = S1.bitB x 1 := ⟨_, rfl⟩
    obtain ⟨hd2, hhd⟩ : ∃ b, b = S1.headN x := ⟨_, rfl⟩
    rw [← hb0, ← hb1, ← hhd] at HAS HK
    clear hk hd hb0 hb1 hhd a1 a2 a3 a4 a5 a6 a7 a8 f2 f3 f4
    go_upto_region 5 with (fail)
    go_wp2_with (go_at_call 204; refine (HAS.out _).mono ?_; rintro e w6 ⟨rfl, hb6⟩; have H6 := Lib.hid (H5.out.new hb6); have b2 := H6.out.b2; have b3 := H6.out.b3; have b4 := H6.out.b4; have f2 := H6.out.fz 2; have f3 := H6.out.fz 3; have f4 := H6.out.fz 4; clear hb6)
    go_ret
    exact ⟨by rw [decide_eq_false e]; rfl, X5, by rw [HK.out]; exact (H6.out.word b0 b1 hd2 K.w).dropB HJ.out⟩
end
end Go.Proofs.YtieiiabbeglmfaaGreatDoor.S14
namespace Go.Proofs.YtieiiabbeglmfaaGreatDoor.S14
set_option maxRecDepth 100000
set_option maxHeartbeats 16000000
open Go.Proofs.YtieiiabbeglmfaaGreatDoor Go.Proofs.YtieiiabbeglmfaaGreatDoor.S11 Go.Proofs.YtieiiabbeglmfaaGreatDoor.S12 Go.Proofs.YtieiiabbeglmfaaGreatDoor.S13
open Go.RowKit
def Behind (w0 : World) (base WB : Nat) (M : Sd) (r : List Part) (j B : Nat) (K : Fr) (e : Ending) (w' : World) : Prop :=
  e = .returned (.int .u8 ((fstepK M K).ln : Int)) ∧ ∃ X', Wf w0 w' base WB (fstepM M K) r j B { fstepK M K with ln := K.ln } X'
def SeekF (w0 : World) (base WB : Nat) (M : Sd) (r : List Part) (j B : Nat) (K : Fr) (u : Nat) (e : Ending) (w' : World) : Prop :=
  e = .returned (.int .u8 ((seekL M.lk u).2.2 : Int)) ∧ ∃ X', Wf w0 w' base WB (M.link (seekL M.lk u).1) r j B { K with t := (seekL M.lk u).2.1 } X'
theorem seek_le (S : S5.Lk) (h : ∀ i, S i ≤ 64) : ∀ (n t : Nat), t < 64 → ∀ i, (S5.go n S t).1 i ≤ 64 := by
  intro n
  induction n generalizing S with
  | zero => intro t _ i; exact h i
  | succ n ih =>
    intro t ht i
    rw [S5.go]
    split
    · split
      · exact h i
      · refine ih _ (fun k => ?_) _ (by have := h (t * 3); omega) i
        unfold S5.upd
        split
        · omega
        · exact h k
    · exact h i
theorem seekO_le {S : S5.Lk} (h : ∀ i, S i ≤ 64) (u : Nat) : (S5.seekO S (hdO u)).2 ≤ 64 ∧ ∀ i, (S5.seekO S (hdO u)).1 i ≤ 64 := by
  unfold hdO
  split
  · rename_i hu
    have hg := seek_le S h 64 (u / 4 - 1) (by omega)
    show (S5.closeS _ (S5.go 64 S _)).2 ≤ 64 ∧ ∀ i, (S5.closeS _ (S5.go 64 S _)).1 i ≤ 64
    generalize S5.go 64 S (u / 4 - 1) = P at *
    obtain ⟨T, o⟩ := P
    cases o with
    | none => exact ⟨by show 0 ≤ 64; omega, hg⟩
    | some a =>
      refine ⟨hg _, fun i => ?_⟩
      show S5.upd T _ (T _) i ≤ 64
      unfold S5.upd
      split
      · exact hg _
      · exact hg i
  · exact ⟨by show 0 ≤ 64; omega, h⟩
theorem field_prev (a b c : Value) (w : World) : (Instr.field 181 (.agg #[a, b, c]) 1).run Tryz.prog w = .ok b w := by kernel_rfl
section
variable {w0 w w' : World} {base WB : Nat} {M : Sd} {r : List Part} {j B : Nat} {K : Fr} {X : Wm}
theorem Wf.cells (h : Wf w0 w base WB M r j B K X) : w.cell? ⟨WB, 0, none⟩ = some (Pw X.cB) ∧ w.cell? ⟨B, 1, none⟩ = some (.int .u32 (K.a : Int)) := ⟨h.pg.c.1, h.b1⟩
theorem beh1 (h : Wf w0 w base WB M r j B K X) (ok : FrOk M K) (hl : K.ln = 1) : Calls Tryz.prog 183 #[Pw B, Pw WB] w (Behind w0 base WB M r j B K) := by
  have hj := h.hj
  have c0 := h.b0
  rw [hl] at c0
  have c2 := h.b2; have c3 := h.b3; have c4 := h.b4
  have hA := h.pushB (.cells #[.bool K.l, .bool K.q, .int .i64 K.h] 339)
  obtain ⟨Q, hQ⟩ : ∃ Q, Q = w.heap.size := ⟨_, rfl⟩
  rw [← hQ] at hA
  have HA := Lib.hid hA; have HJ := Lib.hid hj; have HQ := Lib.hid hQ; have HOK := Lib.hid ok; have HL := Lib.hid hl
  clear h hj hA hQ ok hl
  go_enter Tryz.func183, Tryz.ntmps183
  go_wp2_with fail
  refine wp_scope_two rfl rfl ?_
  go_upto_region 3 with (fail)
  rw [← HQ.out]
  generalize w.alloc (.cells #[.bool K.l, .bool K.q, .int .i64 K.h] 339) = w1 at *
  clear c0 c2 c3 c4
  have c0 := HA.out.b0
  rw [HL.out] at c0
  obtain ⟨x, hx⟩ : ∃ x, x = S2.look M.L K.a := ⟨_, rfl⟩
  have hxl : x < 18446744073709551616 := by rw [hx]; exact HA.out.look K.a
  have HAS := Lib.hid (fun W => S1.as_any x hxl W)
  have had : Calls Tryz.prog 205 #[Pw X.cB, .int .u32 (K.a : Int), .int .u64 18446744073709551615] w1.drew fun e w' => e = .returned (.int .u64 (x : Int)) ∧ ∃ X', Pg w0 w' base WB (M.acc 5 K.a ((S2.look M.L K.a + 18446744073709551615) % 18446744073709551616)) ((r ++ [blockP Q (.cells #[.bool K.l, .bool K.q, .int .i64 K.h] 339)]).set j (freeP B K)) X' ∧ X'.cB = X.cB := by
    rw [hx]
    have h1 := pg_add (HA.out.new (Below.refl _ _).drew).pg HOK.out.a (v := 18446744073709551615) (by omega) HOK.out.n
    rw [show ((18446744073709551615 : Nat) : Int) = 18446744073709551615 from rfl] at h1
    exact h1
  have HAD := Lib.hid had
  have HX := Lib.hid hx
  unfold S1.asV at HAS
  obtain ⟨b0, hb0⟩ : ∃ b, b = S1.bitB x 0 := ⟨_, rfl⟩
  obtain ⟨b1, hb1⟩ : ∃ b, b = S1.bitB x 1 := ⟨_, rfl⟩
  obtain ⟨hd, hhd⟩ : ∃ b, b = S1.headN x := ⟨_, rfl⟩
  rw [← hb0, ← hb1, ← hhd] at HAS
  have HB := Lib.hid (And.intro hb0 (And.intro hb1 hhd))
  have HX0 := Lib.hid HA.out.cells
  clear had hx hxl hb0 hb1 hhd
  go_upto_region 7 with (fail)
  clear c0
  refine wp_region_held_drew (S := fun w' => w'.cell? ⟨WB, 0, none⟩ = some (Pw X.cB) ∧ w'.cell? ⟨B, 1, none⟩ = some (.int .u32 (K.a : Int))) (by kernel_rfl) ?_ (fun hHeld => ?_)
  · exact HX0.out
  refine tA 0 ⟨some 30, .move (.tmp 5), 368, "wordfrees.go:68", #[], none⟩ ?va1m1 ?ra1m1
  (try simp only [Act.put, tC, tD, tE])
  refine tA 1 ⟨some 31, .move (.tmp 1), 24, "wordfrees.go:68", #[], none⟩ ?va1m2 ?ra1m2
  (try simp only [Act.put, tC, tD, tE])
  refine tA 2 ⟨some 32, .nilCheck (.tmp 31), 0, "wordfrees.go:68", #[⟨1, .data⟩], none⟩ ?va1m3 ?ra1m3
  (try simp only [Act.put, tC, tD, tE])
  refine tA 3 ⟨some 33, .fieldAddr 47 (.tmp 32) 0, 0, "wordfrees.go:68", #[⟨2, .data⟩], none⟩ ?va1m4 ?ra1m4
  (try simp only [Act.put, tC, tD, tE])
  refine tA 4 ⟨some 34, .load 39 (.tmp 33), 39, "wordfrees.go:68", #[⟨3, .data⟩], none⟩ ?va1m5 ?ra1m5
  (try simp only [Act.put, tC, tD, tE])
  refine tA 5 ⟨some 35, .move (.tmp 0), 73, "wordfrees.go:68", #[], none⟩ ?va1m6 ?ra1m6
  (try simp only [Act.put, tC, tD, tE])
  refine tA 6 ⟨some 36, .nilCheck (.tmp 35), 0, "wordfrees.go:68", #[⟨5, .data⟩], none⟩ ?va1m7 ?ra1m7
  (try simp only [Act.put, tC, tD, tE])
  refine tA 7 ⟨some 37, .fieldAddr 343 (.tmp 36) 1, 0, "wordfrees.go:68", #[⟨6, .data⟩], none⟩ ?va1m8 ?ra1m8
  (try simp only [Act.put, tC, tD, tE])
  refine tA 8 ⟨some 38, .load 35 (.tmp 37), 35, "wordfrees.go:68", #[⟨7, .data⟩], none⟩ ?va1m9 ?ra1m9
  (try simp only [Act.put, tC, tD, tE])
  refine wpAnyH_ready (rs := [9]) (by kernel_rfl) (by simp) ?_
  refine AllReadyH.cons (o := ⟨some 39, .call ⟨.value (.func 205), #[.tmp 34, .tmp 38, .const (.int .u64 18446744073709551615)], #[39, 35, 23]⟩, 23, "wordfrees.go:68", #[⟨4, .data⟩, ⟨8, .data⟩], none⟩) rfl (fun Kq hKq => ?_) AllReadyH.nil
  go_simp
  (refine HAD.out.mono ?_; rintro e w3 ⟨rfl, X3, h3g, hcb3⟩; have H3 := Lib.hid (show Wf w0 w3 base WB (M.acc 5 K.a ((S2.look M.L K.a + 18446744073709551615) % 18446744073709551616)) (r ++ [blockP Q (.cells #[.bool K.l, .bool K.q, .int .i64 K.h] 339)]) j B K X3 from ⟨h3g, HA.out.hj⟩); have HCB := Lib.hid hcb3; clear h3g hcb3)
  refine hKq.out _ _ ?_ (fun hHeld => ?_)
  · (have q := H3.out.cells; rw [HCB.out] at q; exact q)
  clear hKq Kq
  (try simp only [Act.put, tC, tD, tE])
  refine wpAnyH_ready (rs := [10]) (by kernel_rfl) (by simp) ?_
  refine AllReadyH.cons (o := ⟨some 40, .call ⟨.value (.func 204), #[.tmp 39], #[23]⟩, 339, "wordfrees.go:68", #[⟨9, .data⟩, ⟨9, .chain⟩], none⟩) rfl (fun Kq hKq => ?_) AllReadyH.nil
  go_simp
  (refine (HAS.out _).mono ?_; rintro e w4 ⟨rfl, hb4⟩; have H4 := Lib.hid (H3.out.new hb4); clear hb4)
  refine hKq.out _ _ ?_ (fun hHeld => ?_)
  · (have q := H4.out.cells; rw [HCB.out] at q; exact q)
  clear hKq Kq
  (try simp only [Act.put, tC, tD, tE])
  refine tA 11 ⟨some 41, .nilCheck (.tmp 30), 0, "wordfrees.go:68", #[⟨0, .data⟩, ⟨0, .phase⟩, ⟨1, .phase⟩, ⟨2, .phase⟩, ⟨3, .phase⟩, ⟨4, .phase⟩, ⟨5, .phase⟩, ⟨6, .phase⟩, ⟨7, .phase⟩, ⟨8, .phase⟩, ⟨9, .phase⟩, ⟨10, .phase⟩], none⟩ ?va1m10 ?ra1m10
  (try simp only [Act.put, tC, tD, tE])
  refine tA 12 ⟨some 42, .fieldAddr 341 (.tmp 41) 0, 0, "wordfrees.go:68", #[⟨11, .data⟩, ⟨0, .phase⟩, ⟨1, .phase⟩, ⟨2, .phase⟩, ⟨3, .phase⟩, ⟨4, .phase⟩, ⟨5, .phase⟩, ⟨6, .phase⟩, ⟨7, .phase⟩, ⟨8, .phase⟩, ⟨9, .phase⟩, ⟨10, .phase⟩], none⟩ ?va1m11 ?ra1m11
  (try simp only [Act.put, tC, tD, tE])
  refine wpAnyH_ready (rs := [13]) (by kernel_rfl) (by simp) ?_
  refine AllReadyH.cons (o := ⟨none, .store 339 (.tmp 42) (.tmp 40), 0, "wordfrees.go:68", #[⟨12, .data⟩, ⟨10, .data⟩, ⟨10, .chain⟩, ⟨0, .phase⟩, ⟨1, .phase⟩, ⟨2, .phase⟩, ⟨3, .phase⟩, ⟨4, .phase⟩, ⟨5, .phase⟩, ⟨6, .phase⟩, ⟨7, .phase⟩, ⟨8, .phase⟩, ⟨9, .phase⟩, ⟨10, .phase⟩], none⟩) rfl (fun Kq hKq => ?_) AllReadyH.nil
  (have y2 := H4.out.b2; have y3 := H4.out.b3; have y4 := H4.out.b4; have f2 := H4.out.fz 2; have f3 := H4.out.fz 3; have f4 := H4.out.fz 4; go_simp; have h5 := H4.out.word b0 b1 hd K.w; have H5 := Lib.hid h5; clear y2 y3 y4 f2 f3 f4 h5; generalize ((w4.setCell ⟨B, 2, none⟩ (.bool b0)).setCell ⟨B, 3, none⟩ (.bool b1)).setCell ⟨B, 4, none⟩ (.int .i64 hd) = w5 at *)
  refine hKq.out _ _ ?_ (fun hHeld => ?_)
  · (have q := H5.out.cells; rw [HCB.out] at q; exact q)
  clear hKq Kq
  (try simp only [Act.put, tC, tD, tE])
  refine wpAnyH_done (by kernel_rfl) ?_ _
  clear hHeld
  have z3 := H5.out.b3; have z4 := H5.out.b4
  have hid : idle x = (b1 || decide (hd = -1)) := by unfold idle; rw [← HB.out.2.1, ← HB.out.2.2]
  have HDN := Lib.hid (done_f (w := w5) b1 hd z3 z4)
  have HID := Lib.hid hid
  clear hid z3 z4
  have hfin : Behind w0 base WB M r j B K (.returned (.int .u8 ((if idle x = true then 0 else 2 : Nat) : Int))) w5 := by
    unfold Behind
    rw [show fstepM M K = _ from by simp only [fstepM, HL.out]; rfl, show fstepK M K = _ from by simp only [fstepK, HL.out]; rfl, ← HX.out, ← HB.out.1, ← HB.out.2.1, ← HB.out.2.2]
    have h6 := H5.out.dropB HJ.out
    rw [← HX.out] at h6
    exact ⟨rfl, X3, h6⟩
  have HF := Lib.hid hfin
  clear hfin
  obtain ⟨id, hid⟩ : ∃ id, id = idle x := ⟨_, rfl⟩
  rw [← HID.out] at HDN
  rw [← hid] at HDN HF
  clear hid HID
  cases id with
  | true =>
    rw [if_pos rfl] at HF
    go_wp2_with (go_at_call 206; refine HDN.out.mono ?_; rintro e w6 ⟨rfl, rfl⟩)
    (try simp only [to2])
    go_ret
    exact HF.out
  | false =>
    rw [if_neg (by decide)] at HF
    go_wp2_with (go_at_call 206; refine HDN.out.mono ?_; rintro e w6 ⟨rfl, rfl⟩)
    (try simp only [to2])
    go_ret
    exact HF.out
end
end Go.Proofs.YtieiiabbeglmfaaGreatDoor.S14
