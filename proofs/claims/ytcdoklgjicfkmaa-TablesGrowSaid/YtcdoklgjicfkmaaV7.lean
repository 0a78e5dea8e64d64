/- The chapter's example. -/
import Derived.Test.YtcdoklgjicfkmaaV6
namespace Go.Proofs.Ytcdoklgjicfkmaa
open Go.RowKit

theorem kit3 : ∃ h : Nat → Nat, Kit 3 8 h ∧ h 0 = 0 ∧ h 2 = 1 := by
  have hz : sizeN 3 = 8 := by decide
  refine ⟨fun k => hsh k 3, ⟨fun w => ?_, fun w => ?_, fun _ k w hk => ?_, fun _ k w hk => ?_, fun _ k _ => hsh_lt k 3 (by omega), by omega⟩, by decide, by decide⟩
  · rw [← hz]; exact size_any 3 w
  · rw [← hz]; exact rsize_any 3 w
  · exact hash_yes k 3 hk (by omega) (by omega) w
  · exact rhash_yes k 3 hk (by omega) (by omega) w
def e1 : Ent := ⟨1, 0, 0⟩
def e2 : Ent := ⟨2, 2, 0⟩
theorem Fresh.no {own own' : Nat → Option Role} {W : World} (f : Fresh own own' W) {g : Nat} (h : ¬ Mine own g) (hl : g < W.heap.size) : ¬ Mine own' g := fun ⟨r, e⟩ => by
  rcases f g r e with h' | h'
  · exact h h'
  · omega
theorem plT_none (b t : Int) (L : List Bk) (h : ∀ i, i < L.length → L[i]!.q = []) : ∀ k, k ≤ L.length → plT b t L k = []
  | 0, _ => rfl
  | k + 1, hk => by rw [plT_succ, plT_none b t L h k (by omega), h k (by omega)]; rfl
section
variable {h : Nat → Nat}
theorem bk12 (h0 : h 0 = 0) (h2 : h 2 = 1) (i : Nat) : bk h i [e1, e2] = if i = 0 then [e1] else if i = 1 then [e2] else [] := by
  simp only [bk, List.filter_cons, List.filter_nil, show e1.k.toNat = 0 from rfl, show e2.k.toNat = 2 from rfl, h0, h2]
  by_cases i0 : i = 0
  · subst i0; rfl
  · by_cases i1 : i = 1
    · subst i1; rfl
    · rw [if_neg i0, if_neg i1, if_neg (by simp; omega), if_neg (by simp; omega)]
/-- The example's model: behind Put, behind Grow. -/
def Mx : Int → List Bk := upd (M0 5) 2 ((M0 5 2).set 0 { (M0 5 2)[0]! with q := [e1, e2] })
theorem m02 (now : Int) : M0 now 2 = fresh now (List.replicate 4 []) := upd_same _ _ _
theorem m0_at (now : Int) {i : Nat} (hi : i < 4) : (M0 now 2)[i]! = ⟨now, now, []⟩ := by rw [m02, fresh_at now _ (by rw [List.length_replicate]; exact hi), rep_at]
theorem m0_len (now : Int) : (M0 now 2).length = 4 := by rw [m02, fresh_len, List.length_replicate]
theorem mx2 : Mx 2 = (M0 5 2).set 0 { (M0 5 2)[0]! with q := [e1, e2] } := upd_same _ _ _
theorem mxE : ((Mx 2).map Bk.q).flatten = [e1, e2] := by
  rw [mx2, m02]; rfl
theorem my3 : grown Mx h 8 2 3 9 3 = fresh 9 (reh h 8 [e1, e2]) := by unfold grown; rw [upd_same, mxE]
theorem my2 : grown Mx h 8 2 3 9 2 = hollow (Mx 2) := by unfold grown; rw [upd_ne _ _ (by omega), upd_same]
theorem myo {b : Int} (h2 : b ≠ 2) (h3 : b ≠ 3) : grown Mx h 8 2 3 9 b = [] := by unfold grown; rw [upd_ne _ _ h3, upd_ne _ _ h2]; unfold Mx; rw [upd_ne _ _ h2]; exact upd_ne _ _ h2
theorem my_pl (h0 : h 0 = 0) (h2 : h 2 = 1) : plM (grown Mx h 8 2 3 9) 2 7 = [(3, 1)] := by
  have hh : ∀ b : Int, b ≠ 2 → b ≠ 3 → plT b 2 (grown Mx h 8 2 3 9 b) (grown Mx h 8 2 3 9 b).length = [] := fun b e2 e3 => by rw [myo e2 e3]; rfl
  have h22 : plT 2 2 (grown Mx h 8 2 3 9 2) (grown Mx h 8 2 3 9 2).length = [] := by
    rw [my2]
    exact plT_none _ _ _ (fun i hi => by rw [hollow_len] at hi; rw [hollow_at _ hi]) _ (Nat.le_refl _)
  have h33 : plT 3 2 (grown Mx h 8 2 3 9 3) (grown Mx h 8 2 3 9 3).length = [(3, 1)] := by
    rw [my3, fresh_len, reh_len]
    have hq : ∀ i, i < 8 → (fresh 9 (reh h 8 [e1, e2]))[i]!.q = if i = 0 then [e1] else if i = 1 then [e2] else [] := fun i hi => by
      rw [fresh_at 9 _ (by rw [reh_len]; exact hi)]
      show (reh h 8 [e1, e2])[i]! = _
      rw [reh_at h _ hi, bk12 h0 h2]
    unfold plT
    simp only [show List.range 8 = [0, 1, 2, 3, 4, 5, 6, 7] from rfl, List.flatMap_cons, List.flatMap_nil, hq 0 (by omega), hq 1 (by omega), hq 2 (by omega), hq 3 (by omega), hq 4 (by omega), hq 5 (by omega), hq 6 (by omega), hq 7 (by omega)]
    rfl
  rw [plM_succ, plM_succ, plM_succ, plM_succ, plM_succ, plM_succ, plM_succ]
  rw [show plT ((0 + 2 : Nat) : Int) 2 (grown Mx h 8 2 3 9 ((0 + 2 : Nat) : Int)) (grown Mx h 8 2 3 9 ((0 + 2 : Nat) : Int)).length = [] from h22, show plT ((1 + 2 : Nat) : Int) 2 (grown Mx h 8 2 3 9 ((1 + 2 : Nat) : Int)) (grown Mx h 8 2 3 9 ((1 + 2 : Nat) : Int)).length = [(3, 1)] from h33,
    hh _ (by decide) (by decide), hh _ (by decide) (by decide), hh _ (by decide) (by decide), hh _ (by decide) (by decide), hh _ (by decide) (by decide)]
  rfl
end
set_option maxHeartbeats 4000000 in
set_option maxRecDepth 20000 in
theorem lives_any (w : World) : Calls Try.prog 7 #[] w fun e w' => e = .returned (.bool true) ∧ Below w.heap.size w w' := by
  obtain ⟨h, K, h0, h2⟩ := kit3
  have hI2 : InI 2 := by unfold InI; omega
  have hI3 : InI 3 := by unfold InI; omega
  have heq : ∀ W, (binOp .eql 33 (.agg #[.int .u64 5, .int .u64 5]) (.agg #[.int .u64 5, .int .u64 5])).run Try.prog W = .ok (.bool true) W := fun W => by rw [eqlT33]; rfl
  have heqP : ∀ W, (binOp .eql 30 (.agg #[.int .i64 3, .int .i64 1]) (.agg #[.int .i64 3, .int .i64 1])).run Try.prog W = .ok (.bool true) W := fun W => by rw [eqlP30]; rfl
  have HPL := Lib.hid (my_pl h0 h2)
  have HQ0 : Hid ((grown Mx h 8 2 3 9 3)[0]!.q = [e1]) := Lib.hid (by rw [my3, fresh_at 9 _ (by rw [reh_len]; omega)]; show (reh h 8 [e1, e2])[0]! = _; rw [reh_at h _ (by omega), bk12 h0 h2]; rfl)
  have HQ1 : Hid ((grown Mx h 8 2 3 9 3)[1]!.q = [e2]) := Lib.hid (by rw [my3, fresh_at 9 _ (by rw [reh_len]; omega)]; show (reh h 8 [e1, e2])[1]! = _; rw [reh_at h _ (by omega), bk12 h0 h2]; rfl)
  have HL3 : Hid ((grown Mx h 8 2 3 9 3).length = 8) := Lib.hid (by rw [my3, fresh_len, reh_len])
  have HL2 : Hid ((grown Mx h 8 2 3 9 2).length = 4) := Lib.hid (by rw [my2, hollow_len, mx2, List.length_set, m0_len])
  have HQ2 : Hid ((grown Mx h 8 2 3 9 2)[0]!.q = []) := Lib.hid (by rw [my2, hollow_at _ (by rw [mx2, List.length_set, m0_len]; omega)])
  have hkx : Keys ((Mx 2).map Bk.q).flatten := by
    rw [mxE]; intro e he; simp at he
    rcases he with rfl | rfl
    · exact ⟨0, rfl, by omega⟩
    · exact ⟨2, rfl, by omega⟩
  have HGR := Lib.hid (fun (W : World) base own s n (hst : St W base own s n Mx) (hn : n < 1000000) => grow_yes hst hI2 hI3 9 (by rw [mx2, m02]; simp [fresh]) (by omega) (by omega) (by unfold Mx; rw [upd_ne _ _ (by omega)]; exact upd_ne _ _ (by omega)) K (by rw [mx2, List.length_set, m0_len]; omega) hkx (by rw [mxE]; decide) hn)
  have hgood : Good (grown Mx h 8 2 3 9) 100000 := by
    have g0 := (good_first 5).put 2 (i := 0) (by rw [m0_len]; omega) { (M0 5 2)[0]! with q := [e1, e2] } (by show Keys [e1, e2]; rw [← mxE]; exact hkx) 60 (by show [e1, e2].length ≤ _; decide)
    have hlt : ∀ k, k < 4294967296 → h k < 2 ^ (3 : Int).toNat := fun k hk => by
      have := K.lt (by omega) k hk
      exact this
    have g1 := (Good.grow (h := h) (fr := 2) (tg := 3) g0 9 (by omega) (by omega) (by omega) hlt).mono (N' := 100000) (by omega)
    exact g1
  have HG := Lib.hid hgood
  clear K h0 h2 hkx hgood
  go_enter Try.func7, Try.ntmps7
  go_wp2_with fail
  refine (new_any 5 w).mono ?_
  rintro e w1 ⟨s, own, rfl, hs1, hb1⟩
  have HS1 := Lib.hid hs1
  have HB1 := Lib.hid hb1
  have htm : Calls Try.prog 20 #[s, .agg #[.int .i64 2, .int .i64 3]] w1 fun e w' => e = .returned (.agg #[.int .u64 5, .int .u64 5]) ∧ Below w1.heap.size w1 w' := by
    obtain ⟨F, hr⟩ := hs1.rs
    have := timer_yes hr hI2 (i := 3) (by rw [m0_len]; omega)
    rwa [m0_at 5 (by omega)] at this
  have HTM := Lib.hid htm
  clear hs1 hb1 htm
  go_wp2_with fail
  refine HTM.out.mono ?_
  rintro e w2 ⟨rfl, hb2⟩
  have HS2 := Lib.hid (HS1.out.new hb2)
  have HB2 := Lib.hid (HB1.out.trans (hb2.mono HB1.out.size))
  clear hb2
  go_wp2_with fail
  obtain ⟨X2, hX2⟩ : ∃ X, X = w2.heap.size := ⟨_, rfl⟩
  have hwa := heap_alloc_new w2 (.cells #[.int .u64 5, .int .u64 5] 33)
  have hba := below1 w2 (.cells #[.int .u64 5, .int .u64 5] 33)
  have hsa : (w2.alloc (.cells #[.int .u64 5, .int .u64 5] 33)).heap.size = w2.heap.size + 1 := by simp
  generalize hwae : w2.alloc (.cells #[.int .u64 5, .int .u64 5] 33) = wa at *
  have hwb := heap_alloc_new wa (.cells #[.int .i64 1, .int .u32 0, .int .u64 0, .int .i64 2, .int .u32 2, .int .u64 0] 65)
  have hbb := below1 wa (.cells #[.int .i64 1, .int .u32 0, .int .u64 0, .int .i64 2, .int .u32 2, .int .u64 0] 65)
  have hsb : (wa.alloc (.cells #[.int .i64 1, .int .u32 0, .int .u64 0, .int .i64 2, .int .u32 2, .int .u64 0] 65)).heap.size = w2.heap.size + 2 := by simp [hsa]
  generalize hwbe : wa.alloc (.cells #[.int .i64 1, .int .u32 0, .int .u64 0, .int .i64 2, .int .u32 2, .int .u64 0] 65) = wb at *
  have hb2b : Below w2.heap.size w2 wb := hba.trans (hbb.mono (by omega))
  have hwb2 := (hbb.block w2.heap.size (by omega)).trans hwa
  have hstb := HS2.out.new hb2b
  have hno : ¬ Mine own X2 := fun hm => by have := (HS2.out.fp hm).2; omega
  have hxb : X2 < wb.heap.size := by omega
  rw [hsa] at hwb
  have hrd : Rd wb wb.heap.size (some ⟨w2.heap.size + 1, 0, none⟩) (flat [e1, e2]) := fun _ => ⟨_, 0, rfl, by omega, fun j u e => by
    rw [cell_row hwb, Nat.zero_add]
    have : flat [e1, e2] = [.int .i64 1, .int .u32 0, .int .u64 0, .int .i64 2, .int .u32 2, .int .u64 0] := rfl
    rw [this] at e
    simpa using e⟩
  have hput : Calls Try.prog 15 #[s, .agg #[.int .i64 2, .int .i64 0], .slice (some ⟨w2.heap.size + 1, 0, none⟩) 2 2] wb fun e w' => e = .returned (.bool true) ∧ ∃ own', St w' w.heap.size own' s 1 Mx ∧ Turns (Mine own) wb w' ∧ Fresh own own' wb :=
    put_yes hstb hI2 (i := 0) (by rw [m0_len]; omega) (c0 := 2) hrd (Nat.le_refl _) (by decide)
  have y0 : wb.cell? ⟨X2, 0, none⟩ = some (.int .u64 5) := by rw [hX2]; exact cell_row hwb2 0
  have y1 : wb.cell? ⟨X2, 1, none⟩ = some (.int .u64 5) := by rw [hX2]; exact cell_row hwb2 1
  have HBB := Lib.hid (HB2.out.trans (hb2b.mono HB2.out.size))
  have HY := Lib.hid (⟨y0, y1⟩ : _ ∧ _)
  have HPUT := Lib.hid hput
  have HNO := Lib.hid hno
  have hle := HS2.out.le
  rw [← hX2]
  rw [← hX2] at HPUT
  clear hwa hba hsa hwae hwb hbb hsb hwbe hb2b hwb2 hstb hrd hput y0 y1 hno hX2
  refine HPUT.out.mono ?_
  rintro e w3 ⟨rfl, own3, hs3, ht3, hf3⟩
  have HY3 := Lib.hid (⟨(ht3.cell hxb HNO.out).trans HY.out.1, (ht3.cell hxb HNO.out).trans HY.out.2⟩ : w3.cell? ⟨X2, 0, none⟩ = some (.int .u64 5) ∧ w3.cell? ⟨X2, 1, none⟩ = some (.int .u64 5))
  have HNO3 := Lib.hid (hf3.no HNO.out hxb)
  have hx3 := Nat.lt_of_lt_of_le hxb ht3.size
  have HB3 := Lib.hid (HBB.out.trans ((ht3.below (B := w.heap.size) HBB.out.size (fun k hk hm => by obtain ⟨r, hm⟩ := hm; have := (HS2.out.fp ⟨r, hm⟩).1; omega))))
  have HGR3 := Lib.hid (HGR.out w3 w.heap.size own3 s 1 hs3 (by omega))
  have HS3 := Lib.hid hs3
  clear hs3 ht3 hf3
  go_wp2_with fail
  refine HGR3.out.mono ?_
  rintro e w4 ⟨rfl, own4, hs4, ht4, hf4⟩
  have HY4 := Lib.hid (⟨(ht4.cell hx3 HNO3.out).trans HY3.out.1, (ht4.cell hx3 HNO3.out).trans HY3.out.2⟩ : w4.cell? ⟨X2, 0, none⟩ = some (.int .u64 5) ∧ w4.cell? ⟨X2, 1, none⟩ = some (.int .u64 5))
  have hx4 := Nat.lt_of_lt_of_le hx3 ht4.size
  have HB4 := Lib.hid (HB3.out.trans ((ht4.below (B := w.heap.size) HB3.out.size (fun k hk hm => by have := (HS3.out.fp hm).1; omega))))
  have HS4 := Lib.hid hs4
  have hqq : ∀ W, Below w4.heap.size w4 W → (Calls Try.prog 19 #[s, .agg #[.int .i64 3, .int .i64 0]] W fun e w' => ∃ A', e = .returned (.slice A' 1 1) ∧ RowE w' W.heap.size (.slice A' 1 1) [e1] ∧ Below W.heap.size W w') ∧ (Calls Try.prog 19 #[s, .agg #[.int .i64 3, .int .i64 1]] W fun e w' => ∃ A', e = .returned (.slice A' 1 1) ∧ RowE w' W.heap.size (.slice A' 1 1) [e2] ∧ Below W.heap.size W w') ∧ (Calls Try.prog 19 #[s, .agg #[.int .i64 2, .int .i64 0]] W fun e w' => ∃ A', e = .returned (.slice A' 0 0) ∧ Below W.heap.size W w') ∧
      (Calls Try.prog 12 #[s, .int .i64 2] W fun e w' => ∃ A, e = .returned (.slice A 1 1) ∧ RowP w' W.heap.size (.slice A 1 1) [(3, 1)] ∧ Below W.heap.size W w') := fun W hW => by
    obtain ⟨F, hr⟩ := (HS4.out.new hW).rs
    have q0 := queue_yes hr hI3 (i := 0) (by rw [HL3.out]; omega) (by rw [HQ0.out]; decide)
    have q1 := queue_yes hr hI3 (i := 1) (by rw [HL3.out]; omega) (by rw [HQ1.out]; decide)
    have q2 := queue_yes hr hI2 (i := 0) (by rw [HL2.out]; omega) (by rw [HQ2.out]; decide)
    have q3 := places_any hr 2 HG.out.len HG.out.few
    rw [HQ0.out] at q0
    rw [HQ1.out] at q1
    rw [HQ2.out] at q2
    rw [HPL.out] at q3
    refine ⟨q0, q1, q2.mono ?_, q3⟩
    rintro e w' ⟨A, rfl, -, hb⟩
    exact ⟨A, rfl, hb⟩
  have HQQ := Lib.hid hqq
  clear hs4 ht4 hf4 hqq
  go_wp2_with fail
  refine (HQQ.out w4 (Below.refl _ _)).1.mono ?_
  rintro e w5 ⟨A5, rfl, hr5, hb5⟩
  have HR5 := Lib.hid hr5; have HB5 := Lib.hid hb5
  clear hr5 hb5
  go_wp2_with fail
  refine (HQQ.out w5 HB5.out).2.1.mono ?_
  rintro e w6 ⟨A6, rfl, hr6, hb6⟩
  have HR6 := Lib.hid hr6; have HB6 := Lib.hid (HB5.out.trans (hb6.mono HB5.out.size)); have HC6 := Lib.hid hb6
  clear hr6 hb6
  go_wp2_with fail
  refine (HQQ.out w6 HB6.out).2.2.2.mono ?_
  rintro e w7 ⟨A7, rfl, hr7, hb7⟩
  have HB7 := Lib.hid (HB6.out.trans (hb7.mono HB6.out.size))
  obtain ⟨g5, o5, hA5, hg5, a0, -, -⟩ := ((HR5.out.new HC6.out).new hb7).rd.ent (i := 0) (by decide)
  obtain ⟨g6, o6, hA6, hg6, b0, -, -⟩ := (HR6.out.new hb7).rd.ent (i := 0) (by decide)
  subst hA5
  subst hA6
  have a0' : w7.cell? ⟨g5, o5, none⟩ = some (.int .i64 1) := a0
  have b0' : w7.cell? ⟨g6, o6, none⟩ = some (.int .i64 2) := b0
  have z0 := (HB7.out.cell (p := ⟨X2, 0, none⟩) hx4).trans HY4.out.1
  have z1 := (HB7.out.cell (p := ⟨X2, 1, none⟩) hx4).trans HY4.out.2
  have HR7 := Lib.hid hr7
  clear a0 b0 hr7 hb7
  go_wp2_with fail
  refine (HQQ.out w7 HB7.out).2.2.1.mono ?_
  rintro e w8 ⟨A8, rfl, hb8⟩
  obtain ⟨g7, o7, hA7, hg7, c0, c1⟩ := (HR7.out.new hb8).rd.pair (i := 0) (by decide)
  subst hA7
  have c0' : w8.cell? ⟨g7, o7, none⟩ = some (.int .i64 3) := c0
  have c1' : w8.cell? ⟨g7, o7 + 1, none⟩ = some (.int .i64 1) := c1
  have HB8 := Lib.hid ((HB4.out.trans (HB7.out.mono HB4.out.size)).trans (hb8.mono (Nat.le_trans HB4.out.size HB7.out.size)))
  clear c0 c1 hb8
  go_wp2_with fail
  go_ret
  exact ⟨rfl, HB8.out⟩
end Go.Proofs.Ytcdoklgjicfkmaa
