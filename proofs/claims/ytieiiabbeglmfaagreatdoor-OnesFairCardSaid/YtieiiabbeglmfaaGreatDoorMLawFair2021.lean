/- Texts of this seat, one behind the other. -/
import Derived.Test.YtieiiabbeglmfaaGreatDoorMLawFair2020
set_option linter.unusedVariables false
set_option linter.unusedSimpArgs false
set_option linter.unusedVariables false
set_option linter.unusedSimpArgs false
namespace Go.Proofs.YtieiiabbeglmfaaGreatDoor.S13
set_option maxRecDepth 100000
set_option maxHeartbeats 16000000
open Go.Proofs.YtieiiabbeglmfaaGreatDoor Go.Proofs.YtieiiabbeglmfaaGreatDoor.S11 Go.Proofs.YtieiiabbeglmfaaGreatDoor.S12
open Go.RowKit
theorem eqlN (w : World) : (binOp .eql 447 .nilFunc .nilFunc).run Tryz.prog w = .ok (.bool true) w := by kernel_rfl
theorem eqlF (f : Fn) (x y : Array Value) (w : World) : (binOp .eql 447 (.func f x y) .nilFunc).run Tryz.prog w = .ok (.bool false) w := by kernel_rfl
def LkAt (w : World) (B : Nat) (K : Lk) : Prop := w.heap[B]? = some (.cells K.cs 451 (0, 0))
theorem over_any {w : World} {B : Nat} {K : Lk} (h : LkAt w B K) (h6 : K.ln ≤ 6) : Calls Tryz.prog 337 #[Pw B] w fun e w' => e = .returned (.bool (decide (K.ln = 0))) ∧ w = w' := by
  have c0 : w.cell? ⟨B, 0, none⟩ = some (nxV K.t K.a K.ln) := cell_row h 0
  obtain ⟨n, hn⟩ : ∃ n, n = K.ln := ⟨_, rfl⟩
  rw [← hn] at c0 h6 ⊢
  clear h hn
  match n, h6 with
  | 0, _ =>
    simp only [nxV] at c0
    have he1 := eqlN
    have he2 := eqlF
    go_enter Tryz.func337, Tryz.ntmps337
    go_wp2_with fail
    go_ret
    exact ⟨rfl, rfl⟩
  | 1, _ =>
    simp only [nxV] at c0
    have he1 := eqlN
    have he2 := eqlF
    go_enter Tryz.func337, Tryz.ntmps337
    go_wp2_with fail
    go_ret
    exact ⟨rfl, rfl⟩
  | 2, _ =>
    simp only [nxV] at c0
    have he1 := eqlN
    have he2 := eqlF
    go_enter Tryz.func337, Tryz.ntmps337
    go_wp2_with fail
    go_ret
    exact ⟨rfl, rfl⟩
  | 3, _ =>
    simp only [nxV] at c0
    have he1 := eqlN
    have he2 := eqlF
    go_enter Tryz.func337, Tryz.ntmps337
    go_wp2_with fail
    go_ret
    exact ⟨rfl, rfl⟩
  | 4, _ =>
    simp only [nxV] at c0
    have he1 := eqlN
    have he2 := eqlF
    go_enter Tryz.func337, Tryz.ntmps337
    go_wp2_with fail
    go_ret
    exact ⟨rfl, rfl⟩
  | 5, _ =>
    simp only [nxV] at c0
    have he1 := eqlN
    have he2 := eqlF
    go_enter Tryz.func337, Tryz.ntmps337
    go_wp2_with fail
    go_ret
    exact ⟨rfl, rfl⟩
  | 6, _ =>
    simp only [nxV] at c0
    have he1 := eqlN
    have he2 := eqlF
    go_enter Tryz.func337, Tryz.ntmps337
    go_wp2_with fail
    go_ret
    exact ⟨rfl, rfl⟩
section
variable {w0 w w' : World} {base WB : Nat} {M : Sd} {r : List Part} {j B : Nat} {K : Lk} {X : Wm}
theorem Wl.at (h : Wl w0 w base WB M r j B K X) : LkAt w B K := h.blk
theorem cas_le {x was : Nat} {K' : Lk} (h : K'.ln ≤ 6) : (K.cas x was K').ln ≤ 6 := by
  unfold Lk.cas
  split
  · exact h
  · unfold Lk.turn; split
    · show 2 ≤ 6; omega
    · split
      · split
        · show 3 ≤ 6; omega
        · show 4 ≤ 6; omega
      · show 4 ≤ 6; omega
theorem turn_le {x : Nat} : (K.turn x).ln ≤ 6 := by
  unfold Lk.turn; split
  · show 2 ≤ 6; omega
  · split
    · split
      · show 3 ≤ 6; omega
      · show 4 ≤ 6; omega
    · show 4 ≤ 6; omega
theorem step_le (h : K.ln ≤ 6) : (stepK M K).ln ≤ 6 := by
  unfold stepK
  split
  · exact cas_le (Nat.zero_le _)
  · exact cas_le (Nat.zero_le _)
  · exact turn_le
  · show 5 ≤ 6; omega
  · exact cas_le (Nat.le_refl _)
  · split
    · show 3 ≤ 6; omega
    · exact h
  · exact h
theorem step_any (h : Wl w0 w base WB M r j B K X) (ok : LkOk M K) (h6 : K.ln ≤ 6) : Calls Tryz.prog 338 #[Pw B, Pw WB] w fun e w' => e = .returned (.bool (decide ((stepK M K).ln = 0))) ∧ Stepped w0 w' base WB M r j B K := by
  have hov := over_any h.at h6
  have c0 := h.b0
  by_cases h0 : K.ln = 0
  · have hk : stepK M K = K := by simp only [stepK, h0]
    have hm : stepM M K = M := by simp only [stepM, h0]
    have hs : Stepped w0 w base WB M r j B K := ⟨X, by rw [hk, hm]; exact h⟩
    rw [hk]
    rw [decide_eq_true h0] at hov ⊢
    have HOV := Lib.hid hov; have HS := Lib.hid hs
    clear h ok h6 hov hs hk hm c0 h0
    go_enter Tryz.func338, Tryz.ntmps338
    go_wp2_with (go_at_call 337; refine HOV.out.mono ?_; rintro e w1 ⟨rfl, rfl⟩)
    go_ret
    exact ⟨rfl, HS.out⟩
  · rw [decide_eq_false h0] at hov
    have hnx : ∀ w', Stepped w0 w' base WB M r j B K → Calls Tryz.prog 337 #[Pw B] w' fun e w'' => e = .returned (.bool (decide ((stepK M K).ln = 0))) ∧ w' = w'' := fun w' ⟨X', h'⟩ => over_any h'.at (step_le h6)
    have HOV := Lib.hid hov; have HNX := Lib.hid hnx
    generalize decide ((stepK M K).ln = 0) = ov at *
    have hk : K.ln = 1 ∨ K.ln = 2 ∨ K.ln = 3 ∨ K.ln = 4 ∨ K.ln = 5 ∨ K.ln = 6 := by omega
    rcases hk with hk | hk | hk | hk | hk | hk
    · have HL := Lib.hid (first_l h ok hk)
      rw [hk] at c0
      simp only [nxV] at c0
      clear h ok h6 hov hnx h0 hk
      go_enter Tryz.func338, Tryz.ntmps338
      go_wp2_with (first
        | (go_at_call 319; refine HL.out.mono ?_; rintro e w2 ⟨rfl, hs⟩; have HO2 := Lib.hid (HNX.out _ hs); have HS := Lib.hid hs; clear hs)
        | (go_at_call 337; refine HO2.out.mono ?_; rintro e w3 ⟨rfl, rfl⟩)
        | (go_at_call 337; refine HOV.out.mono ?_; rintro e w1 ⟨rfl, rfl⟩))
      go_ret
      exact ⟨rfl, HS.out⟩
    · have HL := Lib.hid (take_l h ok hk)
      rw [hk] at c0
      simp only [nxV] at c0
      clear h ok h6 hov hnx h0 hk
      go_enter Tryz.func338, Tryz.ntmps338
      go_wp2_with (first
        | (go_at_call 323; refine HL.out.mono ?_; rintro e w2 ⟨rfl, hs⟩; have HO2 := Lib.hid (HNX.out _ hs); have HS := Lib.hid hs; clear hs)
        | (go_at_call 337; refine HO2.out.mono ?_; rintro e w3 ⟨rfl, rfl⟩)
        | (go_at_call 337; refine HOV.out.mono ?_; rintro e w1 ⟨rfl, rfl⟩))
      go_ret
      exact ⟨rfl, HS.out⟩
    · have HL := Lib.hid (look_l h ok hk)
      rw [hk] at c0
      simp only [nxV] at c0
      clear h ok h6 hov hnx h0 hk
      go_enter Tryz.func338, Tryz.ntmps338
      go_wp2_with (first
        | (go_at_call 325; refine HL.out.mono ?_; rintro e w2 ⟨rfl, hs⟩; have HO2 := Lib.hid (HNX.out _ hs); have HS := Lib.hid hs; clear hs)
        | (go_at_call 337; refine HO2.out.mono ?_; rintro e w3 ⟨rfl, rfl⟩)
        | (go_at_call 337; refine HOV.out.mono ?_; rintro e w1 ⟨rfl, rfl⟩))
      go_ret
      exact ⟨rfl, HS.out⟩
    · have HL := Lib.hid (prepare_l h ok hk)
      rw [hk] at c0
      simp only [nxV] at c0
      clear h ok h6 hov hnx h0 hk
      go_enter Tryz.func338, Tryz.ntmps338
      go_wp2_with (first
        | (go_at_call 326; refine HL.out.mono ?_; rintro e w2 ⟨rfl, hs⟩; have HO2 := Lib.hid (HNX.out _ hs); have HS := Lib.hid hs; clear hs)
        | (go_at_call 337; refine HO2.out.mono ?_; rintro e w3 ⟨rfl, rfl⟩)
        | (go_at_call 337; refine HOV.out.mono ?_; rintro e w1 ⟨rfl, rfl⟩))
      go_ret
      exact ⟨rfl, HS.out⟩
    · have HL := Lib.hid (queue_l h ok hk)
      rw [hk] at c0
      simp only [nxV] at c0
      clear h ok h6 hov hnx h0 hk
      go_enter Tryz.func338, Tryz.ntmps338
      go_wp2_with (first
        | (go_at_call 327; refine HL.out.mono ?_; rintro e w2 ⟨rfl, hs⟩; have HO2 := Lib.hid (HNX.out _ hs); have HS := Lib.hid hs; clear hs)
        | (go_at_call 337; refine HO2.out.mono ?_; rintro e w3 ⟨rfl, rfl⟩)
        | (go_at_call 337; refine HOV.out.mono ?_; rintro e w1 ⟨rfl, rfl⟩))
      go_ret
      exact ⟨rfl, HS.out⟩
    · have HL := Lib.hid (park_l h ok hk)
      rw [hk] at c0
      simp only [nxV] at c0
      clear h ok h6 hov hnx h0 hk
      go_enter Tryz.func338, Tryz.ntmps338
      go_wp2_with (first
        | (go_at_call 328; refine HL.out.mono ?_; rintro e w2 ⟨rfl, hs⟩; have HO2 := Lib.hid (HNX.out _ hs); have HS := Lib.hid hs; clear hs)
        | (go_at_call 337; refine HO2.out.mono ?_; rintro e w3 ⟨rfl, rfl⟩)
        | (go_at_call 337; refine HOV.out.mono ?_; rintro e w1 ⟨rfl, rfl⟩))
      go_ret
      exact ⟨rfl, HS.out⟩
end
def newK (t : Int) (a : Nat) : Lk := if 0 ≤ t ∧ t < 64 then lk1 t.toNat a else lk0
theorem new_lock (t : Int) (a : Nat) (w : World) : Calls Tryz.prog 318 #[.int .i64 t, .int .u32 (a : Int)] w fun e w' => e = .returned (Pw w.heap.size) ∧ w' = w.alloc (.cells (newK t a).cs 451) := by
  by_cases h0 : 0 ≤ t
  · by_cases h1 : t < 64
    · have hk : (newK t a).cs = #[.func (.func 319) #[.agg #[.int .i64 t, .int .u32 (a : Int)]] #[], .int .u64 0, .int .i64 0, .bool false] := by
        unfold newK; rw [if_pos ⟨h0, h1⟩]
        have e : askV t.toNat a = .agg #[.int .i64 t, .int .u32 (a : Int)] := by unfold askV; rw [Int.toNat_of_nonneg h0]
        rw [← e]; rfl
      have d0 : decide (t < 0) = false := by rw [decide_eq_false_iff_not]; omega
      have d1 : decide ((64 : Int) ≤ t) = false := by rw [decide_eq_false_iff_not]; omega
      rw [hk]
      clear hk h0 h1
      go_enter Tryz.func318, Tryz.ntmps318
      go_wp2_with fail
      go_ret
      exact ⟨rfl, rfl⟩
    · have hk : (newK t a).cs = #[.nilFunc, .int .u64 0, .int .i64 0, .bool false] := by
        unfold newK; rw [if_neg (by omega)]; rfl
      have d0 : decide (t < 0) = false := by rw [decide_eq_false_iff_not]; omega
      have d1 : decide ((64 : Int) ≤ t) = true := by rw [decide_eq_true_iff]; omega
      rw [hk]
      clear hk h0 h1
      go_enter Tryz.func318, Tryz.ntmps318
      go_wp2_with fail
      go_ret
      exact ⟨rfl, rfl⟩
  · have hk : (newK t a).cs = #[.nilFunc, .int .u64 0, .int .i64 0, .bool false] := by
      unfold newK; rw [if_neg (by omega)]; rfl
    have d0 : decide (t < 0) = true := by rw [decide_eq_true_iff]; omega
    rw [hk]
    clear hk h0
    go_enter Tryz.func318, Tryz.ntmps318
    go_wp2_with fail
    go_ret
    exact ⟨rfl, rfl⟩
end Go.Proofs.YtieiiabbeglmfaaGreatDoor.S13
namespace Go.Proofs.YtieiiabbeglmfaaGreatDoor.S14
set_option maxRecDepth 100000
set_option maxHeartbeats 16000000
open Go.Proofs.YtieiiabbeglmfaaGreatDoor Go.Proofs.YtieiiabbeglmfaaGreatDoor.S11 Go.Proofs.YtieiiabbeglmfaaGreatDoor.S12 Go.Proofs.YtieiiabbeglmfaaGreatDoor.S13
open Go.RowKit
structure Fr where
  ln : Nat
  a : Nat
  l : Bool
  q : Bool
  h : Int
  w : Nat
  t : Int
def fr0 (a : Nat) : Fr := ⟨1, a, false, false, 0, 0, 0⟩
def idle (u : Nat) : Bool := S1.bitB u 1 || decide (S1.headN u = -1)
def wq (u : Nat) (b : Bool) : Nat := S1.putU (S1.bitB u 0) b (S1.headN u)
def Fr.says (K : Fr) (u : Nat) : Fr := { K with l := S1.bitB u 0, q := S1.bitB u 1, h := S1.headN u, w := u }
def Fr.look (K : Fr) : Fr := { K with ln := if idle K.w = true then 0 else 3 }
def seekL (S : S5.Lk) (u : Nat) : S5.Lk × Int × Nat :=
  if (S5.seekO S (hdO u)).2 = 0 then ((S5.seekO S (hdO u)).1, -1, 0)
  else if S1.bitB u 0 = true then ((S5.seekO S (hdO u)).1, ((S5.seekO S (hdO u)).2 : Int) - 1, 4)
  else if (S5.seekO S (hdO u)).1 (((S5.seekO S (hdO u)).2 - 1) * 3 + 1) = 0 then ((S5.seekO S (hdO u)).1, ((S5.seekO S (hdO u)).2 : Int) - 1, 5)
  else ((S5.cutO (S5.seekO S (hdO u)).1 (hdO u) (some ((S5.seekO S (hdO u)).2 - 1))).1, ((S5.seekO S (hdO u)).2 : Int) - 1, 6)
def Fr.seek (K : Fr) (S : S5.Lk) : Fr := { K with t := (seekL S K.w).2.1, ln := (seekL S K.w).2.2 }
def fstepM (M : Sd) (K : Fr) : Sd :=
  match K.ln with
  | 1 => M.acc 5 K.a ((S2.look M.L K.a + 18446744073709551615) % 18446744073709551616)
  | 2 => M.acc 1 K.a (S2.look M.L K.a)
  | 3 => if S2.look M.L K.a = K.w then (M.acc 3 K.a (S2.casV (S2.look M.L K.a) K.w (wq K.w true))).link (seekL M.lk (wq K.w true)).1 else M.acc 3 K.a (S2.casV (S2.look M.L K.a) K.w (wq K.w true))
  | 4 => if S2.look M.L K.a = K.w then M.acc 3 K.a (S2.casV (S2.look M.L K.a) K.w (wq K.w false)) else (M.acc 3 K.a (S2.casV (S2.look M.L K.a) K.w (wq K.w false))).link (seekL M.lk (S2.look M.L K.a)).1
  | 5 => if S2.look M.L K.a = K.w then M.acc 3 K.a (S2.casV (S2.look M.L K.a) K.w 0) else (M.acc 3 K.a (S2.casV (S2.look M.L K.a) K.w 0)).link (seekL M.lk (S2.look M.L K.a)).1
  | 6 => M.acc 6 K.a (S2.look M.L K.a &&& 18446744073709551613)
  | 7 => M.unpark (2 * K.t.toNat + 1)
  | _ => M
def fstepK (M : Sd) (K : Fr) : Fr :=
  match K.ln with
  | 1 => { K with ln := if idle (S2.look M.L K.a) = true then 0 else 2, l := S1.bitB (S2.look M.L K.a) 0, q := S1.bitB (S2.look M.L K.a) 1, h := S1.headN (S2.look M.L K.a) }
  | 2 => (K.says (S2.look M.L K.a)).look
  | 3 => if S2.look M.L K.a = K.w then ({ K with q := true, w := wq K.w true } : Fr).seek M.lk else (K.says (S2.look M.L K.a)).look
  | 4 => if S2.look M.L K.a = K.w then { K with ln := 0, q := false } else (K.says (S2.look M.L K.a)).seek M.lk
  | 5 => if S2.look M.L K.a = K.w then { K with ln := 7, l := false, q := false, h := -1 } else (K.says (S2.look M.L K.a)).seek M.lk
  | 6 => { K with ln := 7 }
  | 7 => { K with ln := 0 }
  | _ => K
structure FrOk (M : Sd) (K : Fr) : Prop where
  a : K.a < 4294967296
  w : K.w < 18446744073709551616
  con : 3 ≤ K.ln → K.ln ≤ 5 → K.l = S1.bitB K.w 0 ∧ K.q = S1.bitB K.w 1 ∧ K.h = S1.headN K.w ∧ S1.headN K.w ≠ -1
  t : 4 ≤ K.ln → 0 ≤ K.t ∧ K.t ≤ 63
  n : M.n ≤ 1000000000
  pn : M.pn ≤ 1000000000
theorem word_put {u : Nat} (h : S1.headN u ≠ -1) : S1.putU (S1.bitB u 0) (S1.bitB u 1) (S1.headN u) = u ∧ u ≤ 259 := by
  have hu : u ≤ 259 := by
    unfold S1.headN at h
    split at h
    · omega
    · exact absurd rfl h
  refine ⟨?_, hu⟩
  have e := S1.put_as u hu
  unfold S1.putU
  rw [e]; rfl
theorem wq_says (u : Nat) (b : Bool) : S1.bitB (wq u b) 0 = S1.bitB u 0 ∧ S1.bitB (wq u b) 1 = b ∧ S1.headN (wq u b) = S1.headN u := by
  obtain ⟨n, e, _, h0, h1, h2⟩ := S1.put_nat (S1.bitB u 0) b (S1.headN u) (S1.head_is u)
  have e2 : wq u b = n := by unfold wq S1.putU; rw [e]; rfl
  rw [e2]
  exact ⟨h0, h1, h2⟩
theorem wq_lt (u : Nat) (b : Bool) : wq u b < 18446744073709551616 := S1.putU_lt _ _ _
end Go.Proofs.YtieiiabbeglmfaaGreatDoor.S14
namespace Go.Proofs.YtieiiabbeglmfaaGreatDoor.S14
set_option maxRecDepth 100000
set_option maxHeartbeats 16000000
open Go.Proofs.YtieiiabbeglmfaaGreatDoor Go.Proofs.YtieiiabbeglmfaaGreatDoor.S11 Go.Proofs.YtieiiabbeglmfaaGreatDoor.S12 Go.Proofs.YtieiiabbeglmfaaGreatDoor.S13
open Go.RowKit
def to2 (J0 J1 : Act → World → Prop) (Q : Exit → Act → World → Prop) : Exit → Act → World → Prop
  | .goto l, a, w => (l = 0 ∧ J0 a w) ∨ (l = 1 ∧ J1 a w)
  | e, a, w => Q e a w
theorem wp_scope_two {P : Program} {a : Act} {w : World} {Q : Exit → Act → World → Prop} {c r0 r1 : Code} (hf0 : findLabel c 0 = some r0) (hf1 : findLabel c 1 = some r1)
    (first : c.wp P (to2 (fun a w => r0.wp P (Exit.noGoto Q) a w) (fun a w => r1.wp P (Exit.noGoto Q) a w) Q) a w) : (Code.scope c).wp P Q a w := by
  intro b k cs
  have key : ∀ (rest : Code) (a : Act) (w : World) (l : Nat), gotoIn l (.inScope c :: k) = some (.code rest :: .inScope c :: k) → rest.wp P (Exit.noGoto Q) a w →
      ∃ e a' w', Q e a' w' ∧ Arrives P (lone (b.at a (.code rest :: .inScope c :: k)) cs w) b k cs e a' w' := by
    intro rest a w l hg h
    obtain ⟨e, a₁, w₁, hq, harr⟩ := h b (.inScope c :: k) cs
    cases e with
    | normal => exact ⟨.normal, a₁, w₁, hq, Steps.trans harr (.one step_inScope)⟩
    | exit id => exact ⟨.exit id, a₁, w₁, hq, fun k' hk => harr k' (by simp [exitTo, hk])⟩
    | goto l' => exact hq.elim
    | ret => exact ⟨_, a₁, w₁, hq, harr⟩
    | panic ch => exact ⟨_, a₁, w₁, hq, harr⟩
    | outgrown => exact ⟨_, a₁, w₁, hq, harr⟩
  obtain ⟨e, a₁, w₁, hq, harr⟩ := first b (.inScope c :: k) cs
  cases e with
  | normal => exact ⟨.normal, a₁, w₁, hq, .head step_scope (Steps.trans harr (.one step_inScope))⟩
  | exit id => exact ⟨.exit id, a₁, w₁, hq, fun k' hk => .head step_scope (harr k' (by simp [exitTo, hk]))⟩
  | goto l' =>
    rcases hq with ⟨rfl, h⟩ | ⟨rfl, h⟩
    · have hg : gotoIn 0 (.inScope c :: k) = some (.code r0 :: .inScope c :: k) := by simp [gotoIn, hf0]
      obtain ⟨e₂, a₂, w₂, hq₂, harr₂⟩ := key _ _ _ 0 hg h
      exact ⟨e₂, a₂, w₂, hq₂, .of_steps (.head step_scope (harr _ hg)) harr₂⟩
    · have hg : gotoIn 1 (.inScope c :: k) = some (.code r1 :: .inScope c :: k) := by simp [gotoIn, hf1]
      obtain ⟨e₂, a₂, w₂, hq₂, harr₂⟩ := key _ _ _ 1 hg h
      exact ⟨e₂, a₂, w₂, hq₂, .of_steps (.head step_scope (harr _ hg)) harr₂⟩
  | ret => exact ⟨_, a₁, w₁, hq, .of_steps (.one step_scope) harr⟩
  | panic ch => exact ⟨_, a₁, w₁, hq, .of_steps (.one step_scope) harr⟩
  | outgrown => exact ⟨_, a₁, w₁, hq, .of_steps (.one step_scope) harr⟩
section
variable {w0 w w' : World} {base WB : Nat} {M : Sd} {r : List Part} {X : Wm}
theorem pg_add (h : Pg w0 w base WB M r X) {a v : Nat} (ha : a < 4294967296) (hv : v < 18446744073709551616) (hn : M.n ≤ 1000000000) :
    Calls Tryz.prog 205 #[Pw X.cB, .int .u32 a, .int .u64 v] w fun e w' => e = .returned (.int .u64 (S2.look M.L a : Nat)) ∧ ∃ X', Pg w0 w' base WB (M.acc 5 a ((S2.look M.L a + v) % 18446744073709551616)) r X' ∧ X'.cB = X.cB := by
  have e : X.L = M.L := congrArg Sd.L h.xm
  have e2 : X.n = M.n := congrArg Sd.n h.xm
  rw [← e]
  refine (S2.add_any w X.cB X.cM X.L X.n X.k X.a X.was X.is a v h.pw.cells ha hv (by omega)).mono ?_
  rintro e w' ⟨rfl, hl⟩
  exact ⟨rfl, h.left hl⟩
theorem pg_and (h : Pg w0 w base WB M r X) {a v : Nat} (ha : a < 4294967296) (hv : v < 18446744073709551616) (hn : M.n ≤ 1000000000) :
    Calls Tryz.prog 209 #[Pw X.cB, .int .u32 a, .int .u64 v] w fun e w' => e = .returned (.int .u64 (S2.look M.L a : Nat)) ∧ ∃ X', Pg w0 w' base WB (M.acc 6 a (S2.look M.L a &&& v)) r X' ∧ X'.cB = X.cB := by
  have e : X.L = M.L := congrArg Sd.L h.xm
  have e2 : X.n = M.n := congrArg Sd.n h.xm
  rw [← e]
  refine (S2.and_any w X.cB X.cM X.L X.n X.k X.a X.was X.is a v h.pw.cells ha hv (by omega)).mono ?_
  rintro e w' ⟨rfl, hl⟩
  exact ⟨rfl, h.left hl⟩
theorem pg_lk (h : Pg w0 w base WB M r X) : X.lk = M.lk := congrArg Sd.lk h.xm
theorem pg_seek (h : Pg w0 w base WB M r X) {x : Int} {o : Option Nat} (hx : S5.Num x o) :
    Calls Tryz.prog 212 #[Pw X.lB, .int .i64 x] w fun e w' => e = .returned (.int .i64 (((S5.seekO M.lk o).2 : Int) - 1)) ∧ ∃ X', Pg w0 w' base WB (M.link (S5.seekO M.lk o).1) r X' ∧ X'.lB = X.lB := by
  have e := pg_lk h
  rw [← e]
  refine (S5.seek_any h.pw.links hx).mono ?_
  rintro e w' ⟨rfl, hh, ht⟩
  exact ⟨rfl, h.links ⟨hh, ht⟩⟩
theorem pg_cut (h : Pg w0 w base WB M r X) {x y : Int} {a b : Option Nat} (hx : S5.Num x a) (hy : S5.Num y b) :
    Calls Tryz.prog 213 #[Pw X.lB, .int .i64 x, .int .i64 y] w fun e w' => e = .returned (.int .i64 (((S5.cutO M.lk a b).2 : Int) - 1)) ∧ ∃ X', Pg w0 w' base WB (M.link (S5.cutO M.lk a b).1) r X' ∧ X'.lB = X.lB := by
  have e := pg_lk h
  rw [← e]
  refine (S5.cut_any h.pw.links hx hy).mono ?_
  rintro e w' ⟨rfl, hh, ht⟩
  exact ⟨rfl, h.links ⟨hh, ht⟩⟩
theorem pg_at (h : Pg w0 w base WB M r X) {t : Nat} (ht : t < 64) :
    Calls Tryz.prog 75 #[Pw X.lB, .int .i64 (t : Int)] w fun e w' => e = .returned (S5.lnk M.lk t) ∧ Below w.heap.size w w' := by
  have e := pg_lk h
  rw [← e]
  exact S5.at_yes h.pw.links t ht
theorem pg_le (h : Pg w0 w base WB M r X) (i : Nat) : M.lk i ≤ 64 := by
  have e := pg_lk h
  rw [← e]
  exact h.pw.links.le i
end
def Fr.cs (K : Fr) : Array Value := #[.int .u8 (K.ln : Int), .int .u32 (K.a : Int), .bool K.l, .bool K.q, .int .i64 K.h, .int .i64 K.t]
def freeP (B : Nat) (K : Fr) : Part := blockP B (.cells K.cs 343)
structure Wf (w0 w : World) (base WB : Nat) (M : Sd) (r : List Part) (j B : Nat) (K : Fr) (X : Wm) : Prop where
  pg : Pg w0 w base WB M (r.set j (freeP B K)) X
  hj : j < r.length
section
variable {w0 w w' : World} {base WB : Nat} {M : Sd} {r : List Part} {j B : Nat} {K : Fr} {X : Wm}
theorem Wf.new (h : Wf w0 w base WB M r j B K X) (b : Below w.heap.size w w') : Wf w0 w' base WB M r j B K X := ⟨h.pg.new b, h.hj⟩
theorem Wf.part (h : Wf w0 w base WB M r j B K X) : (r.set j (freeP B K))[j]? = some (freeP B K) := List.getElem?_set_self h.hj
theorem Wf.blk (h : Wf w0 w base WB M r j B K X) : w.heap[B]? = some (.cells K.cs 343 (0, 0)) := h.pg.ps.ok _ _ (h.pg.part h.part)
theorem Wf.b0 (h : Wf w0 w base WB M r j B K X) : w.cell? ⟨B, 0, none⟩ = some (.int .u8 (K.ln : Int)) := cell_row h.blk 0
theorem Wf.b1 (h : Wf w0 w base WB M r j B K X) : w.cell? ⟨B, 1, none⟩ = some (.int .u32 (K.a : Int)) := cell_row h.blk 1
theorem Wf.b2 (h : Wf w0 w base WB M r j B K X) : w.cell? ⟨B, 2, none⟩ = some (.bool K.l) := cell_row h.blk 2
theorem Wf.b3 (h : Wf w0 w base WB M r j B K X) : w.cell? ⟨B, 3, none⟩ = some (.bool K.q) := cell_row h.blk 3
theorem Wf.b4 (h : Wf w0 w base WB M r j B K X) : w.cell? ⟨B, 4, none⟩ = some (.int .i64 K.h) := cell_row h.blk 4
theorem Wf.b5 (h : Wf w0 w base WB M r j B K X) : w.cell? ⟨B, 5, none⟩ = some (.int .i64 K.t) := cell_row h.blk 5
theorem Wf.fz (h : Wf w0 w base WB M r j B K X) (i : Nat) : w.frozen? ⟨B, i, none⟩ = false := froz_row h.blk i
theorem Wf.look (h : Wf w0 w base WB M r j B K X) (a : Nat) : S2.look M.L a < 18446744073709551616 := by
  have := S2.look_lt h.pg.pw.cells.good a
  rwa [show X.L = M.L from congrArg Sd.L h.pg.xm] at this
theorem Wf.put (h : Wf w0 w base WB M r j B K X) (K' : Fr) (hq : w'.heap[B]? = some (.cells K'.cs 343 (0, 0))) (t : Turns (fun k => k = B) w w') : Wf w0 w' base WB M r j B K' X := by
  have := h.pg.turn h.part (freeP B K') hq t (fun k e => .inl e)
  rw [List.set_set] at this
  exact ⟨this, h.hj⟩
theorem Wf.recast (h : Wf w0 w base WB M r j B K X) (K' : Fr) (e : K'.cs = K.cs) : Wf w0 w base WB M r j B K' X := by
  refine ⟨?_, h.hj⟩
  have := h.pg
  unfold freeP at this ⊢
  rw [e]; exact this
theorem Wf.word (h : Wf w0 w base WB M r j B K X) (l q : Bool) (hd : Int) (u : Nat) : Wf w0 (((w.setCell ⟨B, 2, none⟩ (.bool l)).setCell ⟨B, 3, none⟩ (.bool q)).setCell ⟨B, 4, none⟩ (.int .i64 hd)) base WB M r j B { K with l := l, q := q, h := hd, w := u } X :=
  h.put _ (set_blk (set_blk (set_blk h.blk 2 (.bool l) _ rfl) 3 (.bool q) _ rfl) 4 (.int .i64 hd) _ (by simp [Fr.cs]))
    ((((Turns.refl (fun k => k = B) w).setCell ⟨B, 2, none⟩ _ rfl).setCell ⟨B, 3, none⟩ _ rfl).setCell ⟨B, 4, none⟩ _ rfl)
theorem Wf.tail (h : Wf w0 w base WB M r j B K X) (t : Int) : Wf w0 (w.setCell ⟨B, 5, none⟩ (.int .i64 t)) base WB M r j B { K with t := t } X :=
  h.put _ (set_blk h.blk 5 (.int .i64 t) _ (by simp [Fr.cs])) ((Turns.refl (fun k => k = B) w).setCell ⟨B, 5, none⟩ _ rfl)
theorem Wf.line (h : Wf w0 w base WB M r j B K X) (n : Nat) : Wf w0 (w.setCell ⟨B, 0, none⟩ (.int .u8 (n : Int))) base WB M r j B { K with ln := n } X :=
  h.put _ (set_blk h.blk 0 (.int .u8 (n : Int)) _ (by simp [Fr.cs])) ((Turns.refl (fun k => k = B) w).setCell ⟨B, 0, none⟩ _ rfl)
theorem Wf.pushB (h : Wf w0 w base WB M r j B K X) (ob : Obj) : Wf w0 (w.alloc ob) base WB M (r ++ [blockP w.heap.size ob]) j B K X := by
  have hp := h.pg.ps.push (blockP w.heap.size ob) (below1 w ob) (heap_alloc_new w ob) (fun k e => Nat.le_of_eq (show k = w.heap.size from e).symm)
  rw [List.append_assoc] at hp
  refine ⟨⟨?_, h.pg.wB, h.pg.xm, h.pg.bl.alloc h.pg.size _⟩, by rw [List.length_append]; have := h.hj; simp; omega⟩
  rw [List.set_append_left _ _ h.hj]
  exact hp
theorem Wf.dropB {q : Part} (h : Wf w0 w base WB M (r ++ [q]) j B K X) (hj : j < r.length) : Wf w0 w base WB M r j B K X := by
  have hp := h.pg.ps
  rw [List.set_append_left _ _ hj, ← List.append_assoc] at hp
  exact ⟨⟨Parts.left hp, h.pg.wB, h.pg.xm, h.pg.bl⟩, hj⟩
theorem Wf.last {Q : Nat} {ob : Obj} (h : Wf w0 w base WB M (r ++ [blockP Q ob]) j B K X) (hj : j < r.length) : w.heap[Q]? = some ob := by
  have hp := h.pg.ps
  rw [List.set_append_left _ _ hj, ← List.append_assoc] at hp
  exact hp.ok _ (blockP Q ob) (by rw [List.getElem?_append_right (by rw [List.length_append, List.length_set]; exact Nat.le_refl _)]; simp)
theorem Wf.turnLast {Q : Nat} {ob : Obj} (h : Wf w0 w base WB M (r ++ [blockP Q ob]) j B K X) (hj : j < r.length) (ob' : Obj) (hq : w'.heap[Q]? = some ob') (t : Turns (fun k => k = Q) w w') : Wf w0 w' base WB M (r ++ [blockP Q ob']) j B K X := by
  have hi : ((r ++ [blockP Q ob]).set j (freeP B K))[r.length]? = some (blockP Q ob) := by
    rw [List.set_append_left _ _ hj, List.getElem?_append_right (by rw [List.length_set]; exact Nat.le_refl _), List.length_set, Nat.sub_self]; rfl
  have hp := h.pg.turn hi (blockP Q ob') hq t (fun k e => .inl e)
  refine ⟨?_, by rw [List.length_append]; simp; omega⟩
  have e : ((r ++ [blockP Q ob]).set j (freeP B K)).set r.length (blockP Q ob') = (r ++ [blockP Q ob']).set j (freeP B K) := by
    rw [List.set_append_left _ _ hj, List.set_append_left _ _ hj, List.set_append_right _ _ (by rw [List.length_set]; exact Nat.le_refl _), List.length_set, Nat.sub_self]; rfl
  rw [e] at hp
  exact hp
theorem done_f (q : Bool) (hd : Int) (c3 : w.cell? ⟨B, 3, none⟩ = some (.bool q)) (c4 : w.cell? ⟨B, 4, none⟩ = some (.int .i64 hd)) : Calls Tryz.prog 206 #[.pointer (some ⟨B, 2, none⟩)] w fun e w' => e = .returned (.bool (q || decide (hd = -1))) ∧ w = w' := by
  cases q with
  | true =>
    go_enter Tryz.func206, Tryz.ntmps206
    go_wp2_with fail
    go_ret
    exact ⟨rfl, rfl⟩
  | false =>
    by_cases e : hd = -1
    · subst e
      go_enter Tryz.func206, Tryz.ntmps206
      go_wp2_with fail
      go_ret
      exact ⟨rfl, rfl⟩
    · have h1 : (hd == -1) = false := by rw [beq_eq_false_iff_ne]; exact e
      rw [decide_eq_false e]
      clear e
      go_enter Tryz.func206, Tryz.ntmps206
      go_wp2_with fail
      go_ret
      exact ⟨rfl, rfl⟩
theorem new_free (a : Nat) (w : World) : Calls Tryz.prog 147 #[.int .u32 (a : Int)] w fun e w' => e = .returned (Pw w.heap.size) ∧ w' = w.alloc (.cells (fr0 a).cs 343) := by
  go_enter Tryz.func147, Tryz.ntmps147
  go_wp2_with fail
  go_ret
  exact ⟨rfl, rfl⟩
theorem over_f {n : Nat} (c0 : w.cell? ⟨B, 0, none⟩ = some (.int .u8 (n : Int))) : Calls Tryz.prog 182 #[Pw B] w fun e w' => e = .returned (.bool (decide (n = 0))) ∧ w = w' := by
  by_cases e : n = 0
  · subst e
    go_enter Tryz.func182, Tryz.ntmps182
    go_wp2_with fail
    go_ret
    exact ⟨rfl, rfl⟩
  · have h1 : ((n : Int) == 0) = false := by rw [beq_eq_false_iff_ne]; omega
    rw [decide_eq_false e]
    clear e
    go_enter Tryz.func182, Tryz.ntmps182
    go_wp2_with fail
    go_ret
    exact ⟨rfl, rfl⟩
end
end Go.Proofs.YtieiiabbeglmfaaGreatDoor.S14
