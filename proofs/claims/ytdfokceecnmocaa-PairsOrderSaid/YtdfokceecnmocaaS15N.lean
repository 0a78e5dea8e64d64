/- BucketsTime's walk. -/
import Derived.Test.YtdfokceecnmocaaS15M
set_option linter.unusedVariables false
set_option linter.unusedSimpArgs false
namespace Go.Proofs.Ytdfokceecnmocaa.S15
open Go.Proofs.Ytdfokceecnmocaa Go.Proofs.Ytdfokceecnmocaa.S11 Go.Proofs.Ytdfokceecnmocaa.S12 Go.Proofs.Ytdfokceecnmocaa.S13 Go.Proofs.Ytdfokceecnmocaa.S14
open Go.RowKit

section
variable {w0 w w' : World} {base WB : Nat} {M : Sd} {r : List Part} {j : Nat} {o : Bool} {t kw tw : Nat} {Z : Wb} {X : Wm} {E : En} {q : Part}
theorem Ew.besideP (h : Ew w0 w base WB M ((r ++ [noP, noP]).set (r.length + 1) q) r.length (r.length + 1) E Z X) {k : Nat} {p : Part} (hk : r[k]? = some p) : (((r ++ [noP, noP]).set (r.length + 1) q).set r.length (wayP E.ow E.t E.kw E.tw Z))[k]? = some p := by
  have hl : k < r.length := (List.getElem?_eq_some_iff.1 hk).1
  refine set_at (set_at ?_ (by omega)) (by omega)
  rw [List.getElem?_append_left hl]; exact hk
theorem Ew.beside (h : Ew w0 w base WB M ((r ++ [noP, noP]).set (r.length + 1) q) r.length (r.length + 1) E Z X) {k : Nat} {p : Part} (hk : r[k]? = some p) : p.ok w :=
  h.wy.pg.ps.ok _ _ (h.wy.pg.part (h.besideP hk))
theorem Wy.besideP (h : Wy w0 w base WB M (r ++ [noP, noP]) r.length o t kw tw Z X) {k : Nat} {p : Part} (hk : r[k]? = some p) : p.ok w := by
  have hl : k < r.length := (List.getElem?_eq_some_iff.1 hk).1
  refine h.pg.ps.ok _ _ (h.pg.part (j := k) (set_at ?_ (by omega)))
  rw [List.getElem?_append_left hl]; exact hk
end
theorem nums {kN who ka a key : Nat} (n2 : kN ≤ 8) (n3 : who < 64) (hka : ka = 64 + who) (ha : 260 ≤ a ∧ a < 768) (hk : key < 65536) : kN < 18446744073709551616 ∧ ka < 4294967296 ∧ ka < 1024 ∧ (0 : Nat) ≠ ka ∧ a ≠ ka ∧ a ≠ 0 ∧ a < 1024 ∧ key < 18446744073709551616 ∧ ka ≠ a ∧ (0 : Nat) ≠ a ∧ a < 4294967296 ∧ key < 4294967296 ∧ key % 4294967296 = key := by
  refine ⟨by omega, by omega, by omega, by omega, by omega, by omega, by omega, by omega, by omega, by omega, by omega, by omega, by omega⟩
theorem bits_facts (bits : Nat) (hb : bits < 256) : ∃ m7 kN : Nat, 2 ≤ kN ∧ kN ≤ 8 ∧ (bits : Int).tmod 7 = (m7 : Int) ∧ (bits : Int) % 7 = (m7 : Int) ∧ IntKind.u8.wrap (m7 : Int) = (m7 : Int) ∧ IntKind.u64.wrap (m7 : Int) = (m7 : Int) ∧ IntKind.u64.wrap (2 + (m7 : Int)) = (kN : Int) ∧ wrap64 (kN : Int) = (kN : Int) ∧ IntKind.i64.wrap (kN : Int) = (kN : Int) := by
  have e : (bits : Int) % 7 = ((bits % 7 : Nat) : Int) := by omega
  have h7 : bits % 7 < 7 := Nat.mod_lt _ (by omega)
  generalize bits % 7 = m at *
  exact ⟨m, 2 + m, by omega, by omega, by rw [Int.tmod_eq_emod_of_nonneg (by omega)]; exact e, e, by rw [IntKind.wrap_u8]; omega, by rw [IntKind.wrap_u64]; omega, by rw [IntKind.wrap_u64]; omega, by unfold wrap64; omega, by rw [IntKind.wrap_i64]; omega⟩
theorem who_facts (t : Nat) (ht : t < 256) : ∃ who ka : Nat, who < 64 ∧ ka = 64 + who ∧ (t : Int).tmod 64 = (who : Int) ∧ (t : Int) % 64 = (who : Int) ∧ IntKind.u8.wrap (who : Int) = (who : Int) ∧ IntKind.i64.wrap (who : Int) = (who : Int) ∧ wrap64 (who : Int) = (who : Int) ∧ IntKind.u32.wrap (who : Int) = (who : Int) ∧ IntKind.u32.wrap (64 + (who : Int)) = (ka : Int) := by
  have e : (t : Int) % 64 = ((t % 64 : Nat) : Int) := by omega
  have h7 : t % 64 < 64 := Nat.mod_lt _ (by omega)
  generalize t % 64 = m at *
  exact ⟨m, 64 + m, h7, rfl, by rw [Int.tmod_eq_emod_of_nonneg (by omega)]; exact e, e, by rw [IntKind.wrap_u8]; omega, by rw [IntKind.wrap_i64]; omega, by unfold wrap64; omega, by rw [IntKind.wrap_u32]; omega, by rw [IntKind.wrap_u32]; omega⟩
theorem key_facts (key : Nat) (hk : key < 65536) : IntKind.u64.wrap (key : Int) = (key : Int) ∧ IntKind.u32.wrap (key : Int) = (key : Int) := ⟨by rw [IntKind.wrap_u64]; omega, by rw [IntKind.wrap_u32]; omega⟩
theorem neqP (b i : Int) (w : World) : (binOp .neq 39 (.agg #[.int .i64 b, .int .i64 i]) (.agg #[.int .i64 b, .int .i64 i])).run Try.prog w = .ok (.bool false) w := by
  simp [go_sem, Try.underlying39]
theorem eqlP (b i : Int) (w : World) : (binOp .eql 39 (.agg #[.int .i64 b, .int .i64 i]) (.agg #[.int .i64 b, .int .i64 i])).run Try.prog w = .ok (.bool true) w := by
  simp [go_sem, Try.underlying39]
theorem merge {S P : World → Prop} {G : Prop} (h2 : (∀ W, S W → P W) → G) (h1 : ∀ W, S W → P W) : G := h2 h1
set_option maxRecDepth 100000 in
set_option maxHeartbeats 16000000 in
theorem law_time (t key bits : Nat) (ht : t < 256) (hk : key < 65536) (hb : bits < 256) (w : World) : Calls Try.prog 3 #[.int .u8 (t : Int), .int .u16 (key : Int), .int .u8 (bits : Int)] w fun e w' => e = .returned (.bool true) ∧ Below w.heap.size w w' := by
  have HW : Hid (Calls Try.prog 5 #[.int .u8 0] w fun e w' => ∃ X, e = .returned (Pw X.wB) ∧ PW w' w.heap.size X ∧ At0 X 0 5 [] ∧ Below w.heap.size w w') := Lib.hid (world_any 0 (by omega) w)
  have HLV := Lib.hid (fun W => lives15 W)
  obtain ⟨m7, kN, n1, n2, p1, p1', p2, p3, p4, p5, p6⟩ := bits_facts bits hb
  obtain ⟨who, ka, n3, hka, q1, q1', q2, q3, q4, q5, q6⟩ := who_facts t ht
  obtain ⟨y1, y2⟩ := key_facts key hk
  have hbN : bitsN kN = kN := by unfold bitsN; rw [if_pos ⟨n1, n2⟩]
  have HN := Lib.hid (And.intro n1 n2); have HWH := Lib.hid n3; have HKA := Lib.hid hka; have HK := Lib.hid hk
  obtain ⟨bkt, hbk⟩ : ∃ bkt, bkt = bktN key kN := ⟨_, rfl⟩
  obtain ⟨a, hal⟩ : ∃ a, a = lokN key kN := ⟨_, rfl⟩
  have hain := lok_in key kN
  rw [← hal] at hain
  have HAI := Lib.hid hain; have HNU := Lib.hid (nums n2 n3 hka hain hk); have HAL := Lib.hid hal; have HBK := Lib.hid hbk; have HBN := Lib.hid hbN
  have HLK : Hid (∀ W, Calls Try.prog 12 #[.agg #[.int .i64 (kN : Int), .int .i64 (bkt : Int)]] W fun e w' => e = .returned (.int .u32 (a : Int)) ∧ Below W.heap.size W w') := Lib.hid (fun W => by
    have h := lockOf_any ((bitsN kN : Nat) : Int) ((bktN key kN : Nat) : Int) W
    rw [lok_lock, ← hbk, ← hal, hbN] at h
    exact h)
  have HPL : Hid (∀ W, Calls Try.prog 7 #[.int .u32 (key : Int), .int .u64 (kN : Int)] W fun e w' => e = .returned (.agg #[.int .i64 (kN : Int), .int .i64 (bkt : Int)]) ∧ Below W.heap.size W w') := Lib.hid (fun W => by
    have h := place_any key kN (Nat.lt_trans hk (by decide)) (Nat.lt_of_le_of_lt n2 (by decide)) W
    unfold placeV at h
    rw [← hbk, hbN] at h
    exact h)
  have HNE := Lib.hid (fun W => new_enter who key n3 (Nat.lt_trans hk (by decide)) W)
  have HNO := Lib.hid (fun W => new_own who n3 W)
  have HNF := Lib.hid (fun W => new_free a W)
  have hnq := neqP (kN : Int) (bkt : Int)
  have heq := eqlP (kN : Int) (bkt : Int)
  clear ht hk hb hbN hka hbk hal hain n1 n2 n3
  go_enter Try.func3, Try.ntmps3
  go_upto_region 6 with (go_at_call 5; refine HW.out.mono ?_; rintro e w1 ⟨X, rfl, hp, h0, hb⟩)
  have hpg := pg_of hp hb
  rw [at0_sd h0] at hpg
  obtain ⟨WB, hWB⟩ : ∃ x, x = X.wB := ⟨_, rfl⟩
  rw [← hWB] at hpg ⊢
  have x0 := hpg.c.1
  have HST := Lib.hid (hpg.store (a := 0) (v := kN) (by decide) HNU.out.1 (Nat.zero_le _))
  clear hpg hp h0 hb hWB HW
  go_upto_region 7 with (go_at_call 6; refine HST.out.mono ?_; rintro e w2 ⟨rfl, X2, h2, hc2⟩; clear hc2)
  clear x0 HST
  have x0 := h2.c.1
  have HST := Lib.hid (h2.store (a := ka) (v := key) HNU.out.2.1 HNU.out.2.2.2.2.2.2.2.1 (by show 1 ≤ 1000000000; decide))
  clear h2
  go_upto_region 8 with (go_at_call 6; refine HST.out.mono ?_; rintro e w3 ⟨rfl, X3, h3, hc3⟩; clear hc3)
  obtain ⟨M2, hM2⟩ : ∃ M2, M2 = ((sdN 0 5).acc 2 0 kN).acc 2 ka key := ⟨_, rfl⟩
  rw [← hM2] at h3
  have l0 : S2.look M2.L 0 = kN := by rw [hM2, acc_other HNU.out.2.2.2.1]; exact acc_same (by decide)
  have lk : S2.look M2.L ka = key := by rw [hM2]; exact acc_same HNU.out.2.2.1
  have la : S2.look M2.L a = 0 := by
    rw [hM2, acc_other HNU.out.2.2.2.2.1, acc_other HNU.out.2.2.2.2.2.1]
    show S2.look L02 a = 0
    rw [look02, if_neg HNU.out.2.2.2.2.2.1]
  have HM2 : Hid (M2.n ≤ 10 ∧ M2.pn ≤ 10 ∧ M2.sp = 0) := Lib.hid (by rw [hM2]; exact ⟨by show 2 ≤ 10; decide, by show 0 ≤ 10; decide, rfl⟩)
  have HL := Lib.hid (And.intro l0 (And.intro lk la)); have H3 := Lib.hid h3
  clear hM2 h3 l0 lk la x0 HST p1 p1' p2 p3 p4 q1 q1' q2 q3 q4 q5 q6 y1
  go_upto_region 9 with (go_at_call 7; refine (HPL.out _).mono ?_; rintro e w4 ⟨rfl, hb4⟩; have HB4 := Lib.hid hb4; clear hb4)
  have h5 := Pg.add (H3.out.new HB4.out) (.cells #[.int .i64 (kN : Int), .int .i64 (bkt : Int)] 39)
  obtain ⟨N10, hN⟩ : ∃ N10, N10 = w4.heap.size := ⟨_, rfl⟩
  rw [← hN] at h5 ⊢
  have H5 := Lib.hid h5
  clear h5 hN H3 HB4 HPL
  generalize w4.alloc (.cells #[.int .i64 (kN : Int), .int .i64 (bkt : Int)] 39) = w5 at *
  go_upto_region 10 with (go_at_call 8; refine (HNE.out _).mono ?_; rintro e w5b ⟨v, rfl, hne⟩)
  obtain ⟨Z, rfl, hi, hs, hwy⟩ := Pg.enter H5.out hne
  have hr := enter_alone (x := kN) (a := a) (hwy.new (Below.refl _ _).drew) hi hs HWH.out (by have := HK.out; omega) (by rw [HM2.out.2.2]; exact ⟨by omega, by omega⟩) (by have := HM2.out; omega) (by have := HM2.out; omega) HL.out.1 HAL.out HL.out.2.2
  have hgot : ∀ (M3 : Sd) (E : En) (q : Part) (Z' : Wb) (X4 : Wm) (W : World), Z'.B = Z.B → E.ln = 0 → E.kw = key → E.tw = kN → Ew w W w.heap.size WB M3 ((([] ++ [blockP N10 (.cells #[.int .i64 (kN : Int), .int .i64 (bkt : Int)] 39)]) ++ [noP, noP]).set (([] ++ [blockP N10 (.cells #[.int .i64 (kN : Int), .int .i64 (bkt : Int)] 39)]).length + 1) q) ([] ++ [blockP N10 (.cells #[.int .i64 (kN : Int), .int .i64 (bkt : Int)] 39)]).length (([] ++ [blockP N10 (.cells #[.int .i64 (kN : Int), .int .i64 (bkt : Int)] 39)]).length + 1) E Z' X4 → Calls Try.prog 10 #[Pw Z.B] W fun e w' => e = .returned (.agg #[.int .i64 (kN : Int), .int .i64 (bkt : Int)]) ∧ Below W.heap.size W w' := fun M3 E q Z' X4 W hzb e0 ek et hew => by
    have hat : (nPart E.ow : Int) ≤ Z'.i := by rw [hew.i, at_zero e0]; exact Int.le_refl _
    have hpl := hew.pl (.inr e0)
    have hg := egot_yes hew.wy hat
    rw [hzb, hpl.1, hpl.2, ek, et, Nat.mod_eq_of_lt (by have := HK.out; omega), ← HBK.out, HBN.out] at hg
    exact hg
  have HR := Lib.hid hr; have HGOT := Lib.hid hgot; have HWY := Lib.hid hwy
  clear hne hi hs hwy hr hgot H5 HNE
  refine wp_region_held_drew (S := fun w' => w'.cell? ⟨N10, 0, none⟩ = some (.int .i64 (kN : Int)) ∧ w'.cell? ⟨N10, 1, none⟩ = some (.int .i64 (bkt : Int))) (by kernel_rfl) ?_ (fun hHeld => ?_)
  · exact ⟨cell_row ((HWY.out.new (Below.refl _ _).drew).besideP (k := 0) rfl) 0, cell_row ((HWY.out.new (Below.refl _ _).drew).besideP (k := 0) rfl) 1⟩
  refine wpAnyH_take (i := 0) (oi := ({ dst := some 50, op := Op.move (Operand.tmp 7), type := 23, pos := "outright.go:158", after := #[], guard := none } : Oper)) (v := ?vam1) rfl (by kernel_rfl) (by kernel_rfl) (by kernel_rfl) (fun _ _ _ h => h) (Or.inl ⟨by rfl, fun w hSw => ?hyam1⟩) (by assumption) ?ram1
  case hyam1 => (try dsimp only at hSw); go_simp; (try with_reducible rfl)
  (try simp only [Act.put, List.setIfInBounds_toArray, List.set_cons_zero, List.set_cons_succ])
  refine wpAnyH_take (i := 1) (oi := ({ dst := some 51, op := Op.move (Operand.tmp 11), type := 41, pos := "outright.go:158", after := #[], guard := none } : Oper)) (v := ?vam2) rfl (by kernel_rfl) (by kernel_rfl) (by kernel_rfl) (fun _ _ _ h => h) (Or.inl ⟨by rfl, fun w hSw => ?hyam2⟩) (by assumption) ?ram2
  case hyam2 => (try dsimp only at hSw); go_simp; (try with_reducible rfl)
  (try simp only [Act.put, List.setIfInBounds_toArray, List.set_cons_zero, List.set_cons_succ])
  refine wpAnyH_take (i := 2) (oi := ({ dst := some 52, op := Op.makeInterface 41 (Operand.tmp 51), type := 102, pos := "outright.go:158", after := #[{ on := 1, ground := Ground.data }], guard := none } : Oper)) (v := ?vam3) rfl (by kernel_rfl) (by kernel_rfl) (by kernel_rfl) (fun _ _ _ h => h) (Or.inl ⟨by rfl, fun w hSw => ?hyam3⟩) (by assumption) ?ram3
  case hyam3 => (try dsimp only at hSw); go_simp; (try with_reducible rfl)
  (try simp only [Act.put, List.setIfInBounds_toArray, List.set_cons_zero, List.set_cons_succ])
  refine wpAnyH_ready (rs := [3]) (by kernel_rfl) (by simp) ?_
  refine AllReadyH.cons (o := ({ dst := some 53, op := Op.call { callee := Callee.value (Operand.func 9), args := #[Operand.tmp 50, Operand.tmp 52, Operand.const (Value.int IntKind.i64 9)], argTypes := #[23, 102, 3] }, type := 3, pos := "outright.go:158", after := #[{ on := 0, ground := Ground.data }, { on := 2, ground := Ground.data }], guard := none } : Oper)) rfl (fun Kq hKq => ?_) AllReadyH.nil
  go_simp
  (refine HR.out.mono ?_; rintro e w6 ⟨rfl, M3, E, q, Z', X3, hzb, htk, e0, ek, et, eo, hew⟩; have HEW := Lib.hid hew; have HTK := Lib.hid htk; have HG := Lib.hid (HGOT.out _ _ _ _ _ _ hzb e0 ek et hew); clear hzb htk e0 ek et eo hew)
  refine hKq.out _ _ ?_ (fun hHeld => ?_)
  · exact ⟨cell_row (HEW.out.beside (k := 0) rfl) 0, cell_row (HEW.out.beside (k := 0) rfl) 1⟩
  clear hKq Kq
  (try simp only [Act.put, List.setIfInBounds_toArray, List.set_cons_zero, List.set_cons_succ])
  refine wpAnyH_take (i := 4) (oi := ({ dst := some 54, op := Op.binOp BinOp.neq 3 (Operand.tmp 53) (Operand.const (Value.int IntKind.i64 3)) 3, type := 4, pos := "outright.go:158", after := #[{ on := 3, ground := Ground.data }], guard := none } : Oper)) (v := ?vam4) rfl (by kernel_rfl) (by kernel_rfl) (by kernel_rfl) (fun _ _ _ h => h) (Or.inl ⟨by rfl, fun w hSw => ?hyam4⟩) (by assumption) ?ram4
  case hyam4 => (try dsimp only at hSw); go_simp; (try with_reducible rfl)
  (try simp only [Act.put, List.setIfInBounds_toArray, List.set_cons_zero, List.set_cons_succ])
  refine wpAnyH_take (i := 5) (oi := ({ dst := some 55, op := Op.move (Operand.tmp 54), type := 4, pos := "outright.go:158", after := #[{ on := 4, ground := Ground.data }, { on := 3, ground := Ground.chain }], guard := none } : Oper)) (v := ?vam5) rfl (by kernel_rfl) (by kernel_rfl) (by kernel_rfl) (fun _ _ _ h => h) (Or.inl ⟨by rfl, fun w hSw => ?hyam5⟩) (by assumption) ?ram5
  case hyam5 => (try dsimp only at hSw); go_simp; (try with_reducible rfl)
  (try simp only [Act.put, List.setIfInBounds_toArray, List.set_cons_zero, List.set_cons_succ])
  refine wpAnyH_take (i := 6) (oi := ({ dst := some 56, op := Op.move (Operand.tmp 11), type := 41, pos := "outright.go:158", after := #[{ on := 5, ground := Ground.guard }], guard := some (5, false) } : Oper)) (v := ?vam6) rfl (by kernel_rfl) (by kernel_rfl) (by kernel_rfl) (fun _ _ _ h => h) (Or.inl ⟨by rfl, fun w hSw => ?hyam6⟩) (by assumption) ?ram6
  case hyam6 => (try dsimp only at hSw); go_simp; (try with_reducible rfl)
  (try simp only [Act.put, List.setIfInBounds_toArray, List.set_cons_zero, List.set_cons_succ])
  refine wpAnyH_take (i := 8) (oi := ({ dst := some 58, op := Op.load 39 (Operand.tmp 10), type := 39, pos := "outright.go:158", after := #[{ on := 5, ground := Ground.guard }], guard := some (5, false) } : Oper)) (v := ?vam7) rfl (by kernel_rfl) (by kernel_rfl) (by kernel_rfl) (fun _ _ _ h => h) (Or.inl ⟨by rfl, fun w hSw => ?hyam7⟩) (by assumption) ?ram7
  case hyam7 => (try dsimp only at hSw); go_simp; (try with_reducible rfl)
  (try simp only [Act.put, List.setIfInBounds_toArray, List.set_cons_zero, List.set_cons_succ])
  refine wpAnyH_ready (rs := [7]) (by kernel_rfl) (by simp) ?_
  refine AllReadyH.cons (o := ({ dst := some 57, op := Op.call { callee := Callee.value (Operand.func 10), args := #[Operand.tmp 56], argTypes := #[41] }, type := 39, pos := "outright.go:158", after := #[{ on := 6, ground := Ground.data }, { on := 5, ground := Ground.chain }, { on := 5, ground := Ground.guard }], guard := some (5, false) } : Oper)) rfl (fun Kq hKq => ?_) AllReadyH.nil
  go_simp
  (refine HG.out.mono ?_; rintro e w7 ⟨rfl, hb7⟩; have HB7 := Lib.hid hb7; have HEW7 := Lib.hid (HEW.out.new hb7); clear hb7)
  refine hKq.out _ _ ?_ (fun hHeld => ?_)
  · exact ⟨bcell HB7.out hHeld.1, bcell HB7.out hHeld.2⟩
  clear hKq Kq
  (try simp only [Act.put, List.setIfInBounds_toArray, List.set_cons_zero, List.set_cons_succ])
  refine wpAnyH_take (i := 9) (oi := ({ dst := some 59, op := Op.binOp BinOp.neq 39 (Operand.tmp 57) (Operand.tmp 58) 39, type := 4, pos := "outright.go:158", after := #[{ on := 7, ground := Ground.data }, { on := 8, ground := Ground.data }, { on := 5, ground := Ground.guard }], guard := some (5, false) } : Oper)) (v := ?vam8) rfl (by kernel_rfl) (by kernel_rfl) (by kernel_rfl) (fun _ _ _ h => h) (Or.inl ⟨by rfl, fun w hSw => ?hyam8⟩) (by assumption) ?ram8
  case hyam8 => (try dsimp only at hSw); go_simp; (try with_reducible rfl)
  (try simp only [Act.put, List.setIfInBounds_toArray, List.set_cons_zero, List.set_cons_succ])
  refine wpAnyH_take (i := 10) (oi := ({ dst := some 60, op := Op.pick (Operand.tmp 55) (Operand.const (Value.bool true)) (Operand.tmp 59), type := 4, pos := "outright.go:158", after := #[{ on := 5, ground := Ground.data }, { on := 9, ground := Ground.data }], guard := none } : Oper)) (v := ?vam9) rfl (by kernel_rfl) (by kernel_rfl) (by kernel_rfl) (fun _ _ _ h => h) (Or.inl ⟨by rfl, fun w hSw => ?hyam9⟩) (by assumption) ?ram9
  case hyam9 => (try dsimp only at hSw); go_simp; (try with_reducible rfl)
  (try simp only [Act.put, List.setIfInBounds_toArray, List.set_cons_zero, List.set_cons_succ])
  refine wpAnyH_take (i := 11) (oi := ({ dst := some 61, op := Op.move (Operand.tmp 60), type := 4, pos := "outright.go:158", after := #[{ on := 10, ground := Ground.data }, { on := 7, ground := Ground.chain }], guard := none } : Oper)) (v := ?vam10) rfl (by kernel_rfl) (by kernel_rfl) (by kernel_rfl) (fun _ _ _ h => h) (Or.inl ⟨by rfl, fun w hSw => ?hyam10⟩) (by assumption) ?ram10
  case hyam10 => (try dsimp only at hSw); go_simp; (try with_reducible rfl)
  (try simp only [Act.put, List.setIfInBounds_toArray, List.set_cons_zero, List.set_cons_succ])
  refine wpAnyH_take (i := 12) (oi := ({ dst := some 62, op := Op.move (Operand.tmp 7), type := 23, pos := "outright.go:158", after := #[{ on := 11, ground := Ground.guard }], guard := some (11, false) } : Oper)) (v := ?vam11) rfl (by kernel_rfl) (by kernel_rfl) (by kernel_rfl) (fun _ _ _ h => h) (Or.inl ⟨by rfl, fun w hSw => ?hyam11⟩) (by assumption) ?ram11
  case hyam11 => (try dsimp only at hSw); go_simp; (try with_reducible rfl)
  (try simp only [Act.put, List.setIfInBounds_toArray, List.set_cons_zero, List.set_cons_succ])
  refine wpAnyH_take (i := 13) (oi := ({ dst := some 63, op := Op.nilCheck (Operand.tmp 62), type := 0, pos := "outright.go:158", after := #[{ on := 12, ground := Ground.data }, { on := 11, ground := Ground.guard }], guard := some (11, false) } : Oper)) (v := ?vam12) rfl (by kernel_rfl) (by kernel_rfl) (by kernel_rfl) (fun _ _ _ h => h) (Or.inl ⟨by rfl, fun w hSw => ?hyam12⟩) (by assumption) ?ram12
  case hyam12 => (try dsimp only at hSw); go_simp; (try with_reducible rfl)
  (try simp only [Act.put, List.setIfInBounds_toArray, List.set_cons_zero, List.set_cons_succ])
  refine wpAnyH_take (i := 14) (oi := ({ dst := some 64, op := Op.fieldAddr 34 (Operand.tmp 63) 0, type := 0, pos := "outright.go:158", after := #[{ on := 13, ground := Ground.data }, { on := 11, ground := Ground.guard }], guard := some (11, false) } : Oper)) (v := ?vam13) rfl (by kernel_rfl) (by kernel_rfl) (by kernel_rfl) (fun _ _ _ h => h) (Or.inl ⟨by rfl, fun w hSw => ?hyam13⟩) (by assumption) ?ram13
  case hyam13 => (try dsimp only at hSw); go_simp; (try with_reducible rfl)
  (try simp only [Act.put, List.setIfInBounds_toArray, List.set_cons_zero, List.set_cons_succ])
  refine wpAnyH_take (i := 16) (oi := ({ dst := some 66, op := Op.load 39 (Operand.tmp 10), type := 39, pos := "outright.go:158", after := #[{ on := 11, ground := Ground.guard }], guard := some (11, false) } : Oper)) (v := ?vam14) rfl (by kernel_rfl) (by kernel_rfl) (by kernel_rfl) (fun _ _ _ h => h) (Or.inl ⟨by rfl, fun w hSw => ?hyam14⟩) (by assumption) ?ram14
  case hyam14 => (try dsimp only at hSw); go_simp; (try with_reducible rfl)
  (try simp only [Act.put, List.setIfInBounds_toArray, List.set_cons_zero, List.set_cons_succ])
  apply merge (S := fun w' => (w'.cell? ⟨N10, 0, none⟩ = some (.int .i64 (kN : Int)) ∧ w'.cell? ⟨N10, 1, none⟩ = some (.int .i64 (bkt : Int))) ∧ Below w7.heap.size w7 w')
  · intro REST
    refine wpAnyH_ready (rs := [15, 17]) (by kernel_rfl) (by simp) ?_
    refine AllReadyH.cons (o := ({ dst := some 65, op := Op.load 26 (Operand.tmp 64), type := 26, pos := "outright.go:158", after := #[{ on := 14, ground := Ground.data }, { on := 11, ground := Ground.guard }], guard := some (11, false) } : Oper)) rfl (fun Kq hKq => ?_) ?_
    · (first | (have y := (HEW7.out.new HB8.out).wy.pg.c.1; go_simp; clear y) | (have y := HEW7.out.wy.pg.c.1; go_simp; clear y))
      refine hKq.out _ _ ?_ (fun hHeld => ?_)
      · exact hHeld
      clear hKq Kq
      (try simp only [Act.put, List.setIfInBounds_toArray, List.set_cons_zero, List.set_cons_succ])
      refine wpAnyH_ready (rs := [17]) (by kernel_rfl) (by simp) ?_
      refine AllReadyH.cons (o := ({ dst := some 67, op := Op.call { callee := Callee.value (Operand.func 12), args := #[Operand.tmp 66], argTypes := #[39] }, type := 37, pos := "outright.go:158", after := #[{ on := 16, ground := Ground.data }, { on := 11, ground := Ground.chain }, { on := 11, ground := Ground.guard }], guard := some (11, false) } : Oper)) rfl (fun Kq hKq => ?_) AllReadyH.nil
      go_simp
      (refine (HLK.out _).mono ?_; rintro e w8 ⟨rfl, hb8⟩; have HB8 := Lib.hid hb8; clear hb8)
      refine hKq.out _ _ ?_ (fun hHeld => ?_)
      · exact ⟨bcell HB8.out hHeld.1, bcell HB8.out hHeld.2⟩
      clear hKq Kq
      (try simp only [Act.put, List.setIfInBounds_toArray, List.set_cons_zero, List.set_cons_succ])
      exact REST _ ⟨hHeld, HB8.out⟩
    refine AllReadyH.cons (o := ({ dst := some 67, op := Op.call { callee := Callee.value (Operand.func 12), args := #[Operand.tmp 66], argTypes := #[39] }, type := 37, pos := "outright.go:158", after := #[{ on := 16, ground := Ground.data }, { on := 11, ground := Ground.chain }, { on := 11, ground := Ground.guard }], guard := some (11, false) } : Oper)) rfl (fun Kq hKq => ?_) AllReadyH.nil
    go_simp
    (refine (HLK.out _).mono ?_; rintro e w8 ⟨rfl, hb8⟩; have HB8 := Lib.hid hb8; clear hb8)
    refine hKq.out _ _ ?_ (fun hHeld => ?_)
    · exact ⟨bcell HB8.out hHeld.1, bcell HB8.out hHeld.2⟩
    clear hKq Kq
    (try simp only [Act.put, List.setIfInBounds_toArray, List.set_cons_zero, List.set_cons_succ])
    refine wpAnyH_ready (rs := [15]) (by kernel_rfl) (by simp) ?_
    refine AllReadyH.cons (o := ({ dst := some 65, op := Op.load 26 (Operand.tmp 64), type := 26, pos := "outright.go:158", after := #[{ on := 14, ground := Ground.data }, { on := 11, ground := Ground.guard }], guard := some (11, false) } : Oper)) rfl (fun Kq hKq => ?_) AllReadyH.nil
    (first | (have y := (HEW7.out.new HB8.out).wy.pg.c.1; go_simp; clear y) | (have y := HEW7.out.wy.pg.c.1; go_simp; clear y))
    refine hKq.out _ _ ?_ (fun hHeld => ?_)
    · exact hHeld
    clear hKq Kq
    (try simp only [Act.put, List.setIfInBounds_toArray, List.set_cons_zero, List.set_cons_succ])
    exact REST _ ⟨hHeld, HB8.out⟩
  intro wRa15 hT
  obtain ⟨hHeld, hb8⟩ := hT
  have HB8 := Lib.hid hb8; have HEW8 := Lib.hid (HEW7.out.new hb8); clear hb8
  refine wpAnyH_ready (rs := [18]) (by kernel_rfl) (by simp) ?_
  refine AllReadyH.cons (o := ({ dst := some 68, op := Op.call { callee := Callee.value (Operand.func 11), args := #[Operand.tmp 65, Operand.tmp 67], argTypes := #[26, 37] }, type := 25, pos := "outright.go:158", after := #[{ on := 15, ground := Ground.data }, { on := 17, ground := Ground.data }, { on := 17, ground := Ground.chain }, { on := 11, ground := Ground.guard }], guard := some (11, false) } : Oper)) rfl (fun Kq hKq => ?_) AllReadyH.nil
  go_simp
  (have hpk := pg_peek HEW8.out.wy.pg (a := a) (by have := HAI.out; omega); rw [HTK.out.at_a] at hpk; refine hpk.mono ?_; rintro e w9 ⟨rfl, rfl⟩; clear hpk)
  refine hKq.out _ _ ?_ (fun hHeld => ?_)
  · exact hHeld
  clear hKq Kq
  (try simp only [Act.put, List.setIfInBounds_toArray, List.set_cons_zero, List.set_cons_succ])
  refine wpAnyH_take (i := 19) (oi := ({ dst := some 69, op := Op.binOp BinOp.neq 25 (Operand.tmp 68) (Operand.const (Value.int IntKind.u64 1)) 25, type := 4, pos := "outright.go:158", after := #[{ on := 18, ground := Ground.data }, { on := 11, ground := Ground.guard }], guard := some (11, false) } : Oper)) (v := ?vam16) rfl (by kernel_rfl) (by kernel_rfl) (by kernel_rfl) (fun _ _ _ h => h) (Or.inl ⟨by rfl, fun w hSw => ?hyam16⟩) (by assumption) ?ram16
  case hyam16 => (try dsimp only at hSw); go_simp; (try with_reducible rfl)
  (try simp only [Act.put, List.setIfInBounds_toArray, List.set_cons_zero, List.set_cons_succ])
  refine wpAnyH_take (i := 20) (oi := ({ dst := some 70, op := Op.pick (Operand.tmp 61) (Operand.const (Value.bool true)) (Operand.tmp 69), type := 4, pos := "outright.go:158", after := #[{ on := 11, ground := Ground.data }, { on := 19, ground := Ground.data }], guard := none } : Oper)) (v := ?vam17) rfl (by kernel_rfl) (by kernel_rfl) (by kernel_rfl) (fun _ _ _ h => h) (Or.inl ⟨by rfl, fun w hSw => ?hyam17⟩) (by assumption) ?ram17
  case hyam17 => (try dsimp only at hSw); go_simp; (try with_reducible rfl)
  (try simp only [Act.put, List.setIfInBounds_toArray, List.set_cons_zero, List.set_cons_succ])
  refine wpAnyH_take (i := 21) (oi := ({ dst := some 71, op := Op.move (Operand.tmp 70), type := 4, pos := "outright.go:158", after := #[{ on := 20, ground := Ground.data }, { on := 18, ground := Ground.chain }], guard := none } : Oper)) (v := ?vam18) rfl (by kernel_rfl) (by kernel_rfl) (by kernel_rfl) (fun _ _ _ h => h) (Or.inl ⟨by rfl, fun w hSw => ?hyam18⟩) (by assumption) ?ram18
  case hyam18 => (try dsimp only at hSw); go_simp; (try with_reducible rfl)
  (try simp only [Act.put, List.setIfInBounds_toArray, List.set_cons_zero, List.set_cons_succ])
  refine wpAnyH_take (i := 22) (oi := ({ dst := some 72, op := Op.move (Operand.tmp 7), type := 23, pos := "outright.go:158", after := #[{ on := 21, ground := Ground.guard }], guard := some (21, false) } : Oper)) (v := ?vam19) rfl (by kernel_rfl) (by kernel_rfl) (by kernel_rfl) (fun _ _ _ h => h) (Or.inl ⟨by rfl, fun w hSw => ?hyam19⟩) (by assumption) ?ram19
  case hyam19 => (try dsimp only at hSw); go_simp; (try with_reducible rfl)
  (try simp only [Act.put, List.setIfInBounds_toArray, List.set_cons_zero, List.set_cons_succ])
  refine wpAnyH_take (i := 23) (oi := ({ dst := some 73, op := Op.load 39 (Operand.tmp 10), type := 39, pos := "outright.go:158", after := #[{ on := 21, ground := Ground.guard }], guard := some (21, false) } : Oper)) (v := ?vam20) rfl (by kernel_rfl) (by kernel_rfl) (by kernel_rfl) (fun _ _ _ h => h) (Or.inl ⟨by rfl, fun w hSw => ?hyam20⟩) (by assumption) ?ram20
  case hyam20 => (try dsimp only at hSw); go_simp; (try with_reducible rfl)
  (try simp only [Act.put, List.setIfInBounds_toArray, List.set_cons_zero, List.set_cons_succ])
  refine wpAnyH_ready (rs := [24]) (by kernel_rfl) (by simp) ?_
  refine AllReadyH.cons (o := ({ dst := some 74, op := Op.call { callee := Callee.value (Operand.func 12), args := #[Operand.tmp 73], argTypes := #[39] }, type := 37, pos := "outright.go:158", after := #[{ on := 23, ground := Ground.data }, { on := 21, ground := Ground.chain }, { on := 21, ground := Ground.guard }], guard := some (21, false) } : Oper)) rfl (fun Kq hKq => ?_) AllReadyH.nil
  go_simp
  (refine (HLK.out _).mono ?_; rintro e w9 ⟨rfl, hb9⟩; have HB9 := Lib.hid hb9; have HEW9 := Lib.hid (HEW8.out.new hb9); clear hb9)
  refine hKq.out _ _ ?_ (fun hHeld => ?_)
  · exact ⟨bcell HB9.out hHeld.1, bcell HB9.out hHeld.2⟩
  clear hKq Kq
  (try simp only [Act.put, List.setIfInBounds_toArray, List.set_cons_zero, List.set_cons_succ])
  refine wpAnyH_ready (rs := [25]) (by kernel_rfl) (by simp) ?_
  refine AllReadyH.cons (o := ({ dst := some 75, op := Op.call { callee := Callee.value (Operand.func 13), args := #[Operand.tmp 74], argTypes := #[37] }, type := 47, pos := "outright.go:158", after := #[{ on := 24, ground := Ground.data }, { on := 24, ground := Ground.chain }, { on := 21, ground := Ground.guard }], guard := some (21, false) } : Oper)) rfl (fun Kq hKq => ?_) AllReadyH.nil
  go_simp
  (refine (HNF.out _).mono ?_; rintro e w10 ⟨rfl, rfl⟩; obtain ⟨FB, hFB⟩ : ∃ FB, FB = w9.heap.size := ⟨_, rfl⟩; obtain ⟨r9, hr9, hf⟩ : ∃ r9 : List Part, r9[0]? = some (blockP N10 (.cells #[.int .i64 (kN : Int), .int .i64 (bkt : Int)] 39)) ∧ Wf w (w9.alloc (.cells (fr0 a).cs 113)) w.heap.size WB M3 (r9 ++ [freeP w9.heap.size (fr0 a)]) r9.length w9.heap.size (fr0 a) X3 := ⟨_, HEW9.out.besideP (k := 0) rfl, Pg.freeAt HEW9.out.wy.pg (fr0 a)⟩; have hb10 := below1 w9 (.cells (fr0 a).cs 113); rw [← hFB] at hf ⊢; have HF := Lib.hid hf; have HR9 := Lib.hid hr9; have HB10 := Lib.hid hb10; clear hFB hf hr9 hb10; generalize w9.alloc (.cells (fr0 a).cs 113) = w10 at *)
  refine hKq.out _ _ ?_ (fun hHeld => ?_)
  · exact ⟨bcell HB10.out hHeld.1, bcell HB10.out hHeld.2⟩
  clear hKq Kq
  (try simp only [Act.put, List.setIfInBounds_toArray, List.set_cons_zero, List.set_cons_succ])
  refine wpAnyH_take (i := 26) (oi := ({ dst := some 76, op := Op.makeInterface 47 (Operand.tmp 75), type := 102, pos := "outright.go:158", after := #[{ on := 25, ground := Ground.data }, { on := 21, ground := Ground.guard }], guard := some (21, false) } : Oper)) (v := ?vam21) rfl (by kernel_rfl) (by kernel_rfl) (by kernel_rfl) (fun _ _ _ h => h) (Or.inl ⟨by rfl, fun w hSw => ?hyam21⟩) (by assumption) ?ram21
  case hyam21 => (try dsimp only at hSw); go_simp; (try with_reducible rfl)
  (try simp only [Act.put, List.setIfInBounds_toArray, List.set_cons_zero, List.set_cons_succ])
  refine wpAnyH_ready (rs := [27]) (by kernel_rfl) (by simp) ?_
  refine AllReadyH.cons (o := ({ dst := some 77, op := Op.call { callee := Callee.value (Operand.func 9), args := #[Operand.tmp 72, Operand.tmp 76, Operand.const (Value.int IntKind.i64 9)], argTypes := #[23, 102, 3] }, type := 3, pos := "outright.go:158", after := #[{ on := 22, ground := Ground.data }, { on := 26, ground := Ground.data }, { on := 25, ground := Ground.chain }, { on := 21, ground := Ground.guard }], guard := some (21, false) } : Oper)) rfl (fun Kq hKq => ?_) AllReadyH.nil
  go_simp
  (refine (run_f HF.out (fok_new (by have := HAI.out; omega)) 1 9 (by omega) (by omega) (by omega) (by have := HTK.out.n; have := HM2.out.1; omega) (by have := HTK.out.pn; have := HM2.out.2.1; omega) (fun i hi => by (obtain rfl : i = 0 := by omega); show 1 ≠ 0; omega) (fr1 (by have := HAI.out; omega) HTK.out.at_a).1).mono ?_; rintro e w11 ⟨rfl, X4, h4⟩; have h5 := Wf.gone (j' := 0) h4; rw [(fr1 (by have := HAI.out; omega) HTK.out.at_a).2] at h5; have H11 := Lib.hid h5; clear h4 h5)
  refine hKq.out _ _ ?_ (fun hHeld => ?_)
  · exact ⟨cell_row (H11.out.ps.ok _ _ (H11.out.part HR9.out)) 0, cell_row (H11.out.ps.ok _ _ (H11.out.part HR9.out)) 1⟩
  clear hKq Kq
  (try simp only [Act.put, List.setIfInBounds_toArray, List.set_cons_zero, List.set_cons_succ])
  refine wpAnyH_take (i := 28) (oi := ({ dst := some 78, op := Op.binOp BinOp.neq 3 (Operand.tmp 77) (Operand.const (Value.int IntKind.i64 1)) 3, type := 4, pos := "outright.go:158", after := #[{ on := 27, ground := Ground.data }, { on := 21, ground := Ground.guard }], guard := some (21, false) } : Oper)) (v := ?vam22) rfl (by kernel_rfl) (by kernel_rfl) (by kernel_rfl) (fun _ _ _ h => h) (Or.inl ⟨by rfl, fun w hSw => ?hyam22⟩) (by assumption) ?ram22
  case hyam22 => (try dsimp only at hSw); go_simp; (try with_reducible rfl)
  (try simp only [Act.put, List.setIfInBounds_toArray, List.set_cons_zero, List.set_cons_succ])
  refine wpAnyH_take (i := 29) (oi := ({ dst := some 79, op := Op.pick (Operand.tmp 71) (Operand.const (Value.bool true)) (Operand.tmp 78), type := 4, pos := "outright.go:158", after := #[{ on := 21, ground := Ground.data }, { on := 28, ground := Ground.data }], guard := none } : Oper)) (v := ?vam23) rfl (by kernel_rfl) (by kernel_rfl) (by kernel_rfl) (fun _ _ _ h => h) (Or.inl ⟨by rfl, fun w hSw => ?hyam23⟩) (by assumption) ?ram23
  case hyam23 => (try dsimp only at hSw); go_simp; (try with_reducible rfl)
  (try simp only [Act.put, List.setIfInBounds_toArray, List.set_cons_zero, List.set_cons_succ])
  refine wpAnyH_done (by kernel_rfl) ?_ _
  clear hHeld HR HGOT HWY HG HEW HEW7 HEW8 HEW9 HF HB7 HB8 HB9 HB10
  have l0 : S2.look (M3.acc 5 a 0).L 0 = kN := by rw [acc_other (by have := HAI.out; omega), HTK.out.other 0 (by have := HAI.out; omega)]; exact HL.out.1
  have lk : S2.look (M3.acc 5 a 0).L (64 + who) = key := by rw [← HKA.out, acc_other (by have := HAI.out; have := HKA.out; have := HWH.out; omega), HTK.out.other _ (by have := HAI.out; have := HKA.out; have := HWH.out; omega)]; exact HL.out.2.1
  have la : S2.look (M3.acc 5 a 0).L a = 0 := acc_same (by have := HAI.out; omega)
  have HL2 := Lib.hid (And.intro l0 (And.intro lk la))
  have HM4 : Hid ((M3.acc 5 a 0).n ≤ 100 ∧ (M3.acc 5 a 0).pn ≤ 100 ∧ (M3.acc 5 a 0).sp = 0) := Lib.hid ⟨by show M3.n + 1 ≤ _; have := HTK.out.n; have := HM2.out.1; omega, by show M3.pn ≤ _; have := HTK.out.pn; have := HM2.out.2.1; omega, by show M3.sp = 0; rw [HTK.out.sp]; exact HM2.out.2.2⟩
  clear l0 lk la
  generalize M3.acc 5 a 0 = M4 at *
  go_upto_region 13 with (go_at_call 14; refine (HNO.out _).mono ?_; rintro e w12 ⟨v, rfl, hne⟩)
  obtain ⟨Z2, rfl, hi, hs, hwy⟩ := Pg.enter H11.out hne
  have hr := own_alone (x := kN) (key := key) (a := a) hwy hi hs HWH.out (by have := HK.out; omega) (by rw [HM4.out.2.2]; exact ⟨by omega, by omega⟩) (by have := HM4.out; omega) (by have := HM4.out; omega) HL2.out.2.1 HL2.out.1 HAL.out HL2.out.2.2
  have HR := Lib.hid hr
  clear hne hi hs hwy hr H11
  go_upto_region 14 with (go_at_call 9; refine HR.out.mono ?_; rintro e w13 ⟨rfl, M5, E2, q2, Z3, X5, hzb, htk, e0, ek, et, eo, hew⟩)
  have hat : (nPart E2.ow : Int) ≤ Z3.i := by rw [hew.i, at_zero e0]; exact Int.le_refl _
  have hpl := hew.pl (.inr e0)
  have hg := ogot_yes hew.wy hat
  rw [hzb, hpl.1, hpl.2, ek, et, Nat.mod_eq_of_lt (by have := HK.out; omega), ← HBK.out, HBN.out] at hg
  have HG2 := Lib.hid hg; have HEW2 := Lib.hid hew; have HTK2 := Lib.hid htk
  clear hat hpl hg hew htk HR e0 ek et eo hzb
  go_upto_region 15 with (go_at_call 15; refine HG2.out.mono ?_; rintro e w14 ⟨rfl, hb14⟩; have HB14 := Lib.hid hb14; clear hb14)
  obtain ⟨r16, hr16, h17⟩ : ∃ r16 : List Part, r16[0]? = some (blockP N10 (.cells #[.int .i64 (kN : Int), .int .i64 (bkt : Int)] 39)) ∧ Pg w (w14.alloc (.cells #[.int .i64 (kN : Int), .int .i64 (bkt : Int)] 39)) w.heap.size WB M5 (r16 ++ [blockP w14.heap.size (.cells #[.int .i64 (kN : Int), .int .i64 (bkt : Int)] 39)]) X5 := ⟨_, HEW2.out.besideP HR9.out, Pg.add (HEW2.out.new HB14.out).wy.pg (.cells #[.int .i64 (kN : Int), .int .i64 (bkt : Int)] 39)⟩
  obtain ⟨N14, hN⟩ : ∃ N14, N14 = w14.heap.size := ⟨_, rfl⟩
  rw [← hN] at h17 ⊢
  obtain ⟨cb, hcb⟩ : ∃ cb, X5.cB = cb := ⟨_, rfl⟩
  have hl10 : (w14.alloc (.cells #[.int .i64 (kN : Int), .int .i64 (bkt : Int)] 39)).heap[N10]? = some (.cells #[.int .i64 (kN : Int), .int .i64 (bkt : Int)] 39) := h17.ps.ok _ _ (h17.part (j := 0) (by rw [List.getElem?_append_left (List.getElem?_eq_some_iff.1 hr16).1]; exact hr16))
  have hl14 := pg_last h17
  have hc0 := h17.c.1
  rw [hcb] at hc0
  have H17 := Lib.hid h17; have HCB := Lib.hid hcb
  clear hN hcb h17 hr16 HEW2 HB14 HG2
  generalize w14.alloc (.cells #[.int .i64 (kN : Int), .int .i64 (bkt : Int)] 39) = w17 at *
  have hc17 : w17.drew.cell? ⟨N10, 0, none⟩ = some (.int .i64 (kN : Int)) ∧ w17.drew.cell? ⟨N10, 1, none⟩ = some (.int .i64 (bkt : Int)) ∧ w17.drew.cell? ⟨N14, 0, none⟩ = some (.int .i64 (kN : Int)) ∧ w17.drew.cell? ⟨N14, 1, none⟩ = some (.int .i64 (bkt : Int)) ∧ w17.drew.cell? ⟨WB, 0, none⟩ = some (Pw cb) := ⟨cell_row hl10 0, cell_row hl10 1, cell_row hl14 0, cell_row hl14 1, hc0⟩
  have HC17 := Lib.hid hc17
  clear hl10 hl14 hc0 hc17
  refine wp_region_held_drew (S := fun w' => w'.cell? ⟨N10, 0, none⟩ = some (.int .i64 (kN : Int)) ∧ w'.cell? ⟨N10, 1, none⟩ = some (.int .i64 (bkt : Int)) ∧ w'.cell? ⟨N14, 0, none⟩ = some (.int .i64 (kN : Int)) ∧ w'.cell? ⟨N14, 1, none⟩ = some (.int .i64 (bkt : Int)) ∧ w'.cell? ⟨WB, 0, none⟩ = some (Pw cb)) (by kernel_rfl) ?_ (fun hHeld => ?_)
  · exact HC17.out
  refine wpAnyH_take (i := 0) (oi := ({ dst := some 91, op := Op.move (Operand.tmp 13), type := 3, pos := "outright.go:164", after := #[], guard := none } : Oper)) (v := ?vzm1) rfl (by kernel_rfl) (by kernel_rfl) (by kernel_rfl) (fun _ _ _ h => h) (Or.inl ⟨by rfl, fun w hSw => ?hyzm1⟩) (by assumption) ?rzm1
  case hyzm1 => (try dsimp only at hSw); go_simp; (try with_reducible rfl)
  (try simp only [Act.put, List.setIfInBounds_toArray, List.set_cons_zero, List.set_cons_succ])
  refine wpAnyH_take (i := 1) (oi := ({ dst := some 92, op := Op.binOp BinOp.eql 3 (Operand.tmp 91) (Operand.const (Value.int IntKind.i64 5)) 3, type := 4, pos := "outright.go:164", after := #[{ on := 0, ground := Ground.data }], guard := none } : Oper)) (v := ?vzm2) rfl (by kernel_rfl) (by kernel_rfl) (by kernel_rfl) (fun _ _ _ h => h) (Or.inl ⟨by rfl, fun w hSw => ?hyzm2⟩) (by assumption) ?rzm2
  case hyzm2 => (try dsimp only at hSw); go_simp; (try with_reducible rfl)
  (try simp only [Act.put, List.setIfInBounds_toArray, List.set_cons_zero, List.set_cons_succ])
  refine wpAnyH_take (i := 2) (oi := ({ dst := some 93, op := Op.move (Operand.tmp 92), type := 4, pos := "outright.go:164", after := #[{ on := 1, ground := Ground.data }], guard := none } : Oper)) (v := ?vzm3) rfl (by kernel_rfl) (by kernel_rfl) (by kernel_rfl) (fun _ _ _ h => h) (Or.inl ⟨by rfl, fun w hSw => ?hyzm3⟩) (by assumption) ?rzm3
  case hyzm3 => (try dsimp only at hSw); go_simp; (try with_reducible rfl)
  (try simp only [Act.put, List.setIfInBounds_toArray, List.set_cons_zero, List.set_cons_succ])
  refine wpAnyH_take (i := 3) (oi := ({ dst := some 94, op := Op.load 39 (Operand.tmp 14), type := 39, pos := "outright.go:164", after := #[{ on := 2, ground := Ground.guard }], guard := some (2, true) } : Oper)) (v := ?vzm4) rfl (by kernel_rfl) (by kernel_rfl) (by kernel_rfl) (fun _ _ _ h => h) (Or.inl ⟨by rfl, fun w hSw => ?hyzm4⟩) (by assumption) ?rzm4
  case hyzm4 => (try dsimp only at hSw); go_simp; (try with_reducible rfl)
  (try simp only [Act.put, List.setIfInBounds_toArray, List.set_cons_zero, List.set_cons_succ])
  refine wpAnyH_take (i := 4) (oi := ({ dst := some 95, op := Op.load 39 (Operand.tmp 10), type := 39, pos := "outright.go:164", after := #[{ on := 2, ground := Ground.guard }], guard := some (2, true) } : Oper)) (v := ?vzm5) rfl (by kernel_rfl) (by kernel_rfl) (by kernel_rfl) (fun _ _ _ h => h) (Or.inl ⟨by rfl, fun w hSw => ?hyzm5⟩) (by assumption) ?rzm5
  case hyzm5 => (try dsimp only at hSw); go_simp; (try with_reducible rfl)
  (try simp only [Act.put, List.setIfInBounds_toArray, List.set_cons_zero, List.set_cons_succ])
  refine wpAnyH_take (i := 5) (oi := ({ dst := some 96, op := Op.binOp BinOp.eql 39 (Operand.tmp 94) (Operand.tmp 95) 39, type := 4, pos := "outright.go:164", after := #[{ on := 3, ground := Ground.data }, { on := 4, ground := Ground.data }, { on := 2, ground := Ground.guard }], guard := some (2, true) } : Oper)) (v := ?vzm6) rfl (by kernel_rfl) (by kernel_rfl) (by kernel_rfl) (fun _ _ _ h => h) (Or.inl ⟨by rfl, fun w hSw => ?hyzm6⟩) (by assumption) ?rzm6
  case hyzm6 => (try dsimp only at hSw); go_simp; (try with_reducible rfl)
  (try simp only [Act.put, List.setIfInBounds_toArray, List.set_cons_zero, List.set_cons_succ])
  refine wpAnyH_take (i := 6) (oi := ({ dst := some 97, op := Op.pick (Operand.tmp 93) (Operand.tmp 96) (Operand.const (Value.bool false)), type := 4, pos := "outright.go:164", after := #[{ on := 2, ground := Ground.data }, { on := 5, ground := Ground.data }], guard := none } : Oper)) (v := ?vzm7) rfl (by kernel_rfl) (by kernel_rfl) (by kernel_rfl) (fun _ _ _ h => h) (Or.inl ⟨by rfl, fun w hSw => ?hyzm7⟩) (by assumption) ?rzm7
  case hyzm7 => (try dsimp only at hSw); go_simp; (try with_reducible rfl)
  (try simp only [Act.put, List.setIfInBounds_toArray, List.set_cons_zero, List.set_cons_succ])
  refine wpAnyH_take (i := 7) (oi := ({ dst := some 98, op := Op.move (Operand.tmp 97), type := 4, pos := "outright.go:164", after := #[{ on := 6, ground := Ground.data }, { on := 2, ground := Ground.chain }], guard := none } : Oper)) (v := ?vzm8) rfl (by kernel_rfl) (by kernel_rfl) (by kernel_rfl) (fun _ _ _ h => h) (Or.inl ⟨by rfl, fun w hSw => ?hyzm8⟩) (by assumption) ?rzm8
  case hyzm8 => (try dsimp only at hSw); go_simp; (try with_reducible rfl)
  (try simp only [Act.put, List.setIfInBounds_toArray, List.set_cons_zero, List.set_cons_succ])
  refine wpAnyH_take (i := 8) (oi := ({ dst := some 99, op := Op.move (Operand.tmp 15), type := 37, pos := "outright.go:164", after := #[{ on := 7, ground := Ground.guard }], guard := some (7, true) } : Oper)) (v := ?vzm9) rfl (by kernel_rfl) (by kernel_rfl) (by kernel_rfl) (fun _ _ _ h => h) (Or.inl ⟨by rfl, fun w hSw => ?hyzm9⟩) (by assumption) ?rzm9
  case hyzm9 => (try dsimp only at hSw); go_simp; (try with_reducible rfl)
  (try simp only [Act.put, List.setIfInBounds_toArray, List.set_cons_zero, List.set_cons_succ])
  refine wpAnyH_take (i := 9) (oi := ({ dst := some 100, op := Op.move (Operand.tmp 1), type := 22, pos := "outright.go:164", after := #[{ on := 7, ground := Ground.guard }], guard := some (7, true) } : Oper)) (v := ?vzm10) rfl (by kernel_rfl) (by kernel_rfl) (by kernel_rfl) (fun _ _ _ h => h) (Or.inl ⟨by rfl, fun w hSw => ?hyzm10⟩) (by assumption) ?rzm10
  case hyzm10 => (try dsimp only at hSw); go_simp; (try with_reducible rfl)
  (try simp only [Act.put, List.setIfInBounds_toArray, List.set_cons_zero, List.set_cons_succ])
  refine wpAnyH_take (i := 10) (oi := ({ dst := some 101, op := Op.convert 22 37 (Operand.tmp 100), type := 37, pos := "outright.go:164", after := #[{ on := 9, ground := Ground.data }, { on := 7, ground := Ground.guard }], guard := some (7, true) } : Oper)) (v := ?vzm11) rfl (by kernel_rfl) (by kernel_rfl) (by kernel_rfl) (fun _ _ _ h => h) (Or.inl ⟨by rfl, fun w hSw => ?hyzm11⟩) (by assumption) ?rzm11
  case hyzm11 => (try dsimp only at hSw); go_simp; (try with_reducible rfl)
  (try simp only [Act.put, List.setIfInBounds_toArray, List.set_cons_zero, List.set_cons_succ])
  refine wpAnyH_take (i := 11) (oi := ({ dst := some 102, op := Op.binOp BinOp.eql 37 (Operand.tmp 99) (Operand.tmp 101) 37, type := 4, pos := "outright.go:164", after := #[{ on := 8, ground := Ground.data }, { on := 10, ground := Ground.data }, { on := 7, ground := Ground.guard }], guard := some (7, true) } : Oper)) (v := ?vzm12) rfl (by kernel_rfl) (by kernel_rfl) (by kernel_rfl) (fun _ _ _ h => h) (Or.inl ⟨by rfl, fun w hSw => ?hyzm12⟩) (by assumption) ?rzm12
  case hyzm12 => (try dsimp only at hSw); go_simp; (try with_reducible rfl)
  (try simp only [Act.put, List.setIfInBounds_toArray, List.set_cons_zero, List.set_cons_succ])
  refine wpAnyH_take (i := 12) (oi := ({ dst := some 103, op := Op.pick (Operand.tmp 98) (Operand.tmp 102) (Operand.const (Value.bool false)), type := 4, pos := "outright.go:164", after := #[{ on := 7, ground := Ground.data }, { on := 11, ground := Ground.data }], guard := none } : Oper)) (v := ?vzm13) rfl (by kernel_rfl) (by kernel_rfl) (by kernel_rfl) (fun _ _ _ h => h) (Or.inl ⟨by rfl, fun w hSw => ?hyzm13⟩) (by assumption) ?rzm13
  case hyzm13 => (try dsimp only at hSw); go_simp; (try with_reducible rfl)
  (try simp only [Act.put, List.setIfInBounds_toArray, List.set_cons_zero, List.set_cons_succ])
  refine wpAnyH_take (i := 13) (oi := ({ dst := some 104, op := Op.move (Operand.tmp 103), type := 4, pos := "outright.go:164", after := #[{ on := 12, ground := Ground.data }, { on := 7, ground := Ground.chain }], guard := none } : Oper)) (v := ?vzm14) rfl (by kernel_rfl) (by kernel_rfl) (by kernel_rfl) (fun _ _ _ h => h) (Or.inl ⟨by rfl, fun w hSw => ?hyzm14⟩) (by assumption) ?rzm14
  case hyzm14 => (try dsimp only at hSw); go_simp; (try with_reducible rfl)
  (try simp only [Act.put, List.setIfInBounds_toArray, List.set_cons_zero, List.set_cons_succ])
  refine wpAnyH_take (i := 14) (oi := ({ dst := some 105, op := Op.move (Operand.tmp 7), type := 23, pos := "outright.go:164", after := #[{ on := 13, ground := Ground.guard }], guard := some (13, true) } : Oper)) (v := ?vzm15) rfl (by kernel_rfl) (by kernel_rfl) (by kernel_rfl) (fun _ _ _ h => h) (Or.inl ⟨by rfl, fun w hSw => ?hyzm15⟩) (by assumption) ?rzm15
  case hyzm15 => (try dsimp only at hSw); go_simp; (try with_reducible rfl)
  (try simp only [Act.put, List.setIfInBounds_toArray, List.set_cons_zero, List.set_cons_succ])
  refine wpAnyH_take (i := 15) (oi := ({ dst := some 106, op := Op.nilCheck (Operand.tmp 105), type := 0, pos := "outright.go:164", after := #[{ on := 14, ground := Ground.data }, { on := 13, ground := Ground.guard }], guard := some (13, true) } : Oper)) (v := ?vzm16) rfl (by kernel_rfl) (by kernel_rfl) (by kernel_rfl) (fun _ _ _ h => h) (Or.inl ⟨by rfl, fun w hSw => ?hyzm16⟩) (by assumption) ?rzm16
  case hyzm16 => (try dsimp only at hSw); go_simp; (try with_reducible rfl)
  (try simp only [Act.put, List.setIfInBounds_toArray, List.set_cons_zero, List.set_cons_succ])
  refine wpAnyH_take (i := 16) (oi := ({ dst := some 107, op := Op.fieldAddr 34 (Operand.tmp 106) 0, type := 0, pos := "outright.go:164", after := #[{ on := 15, ground := Ground.data }, { on := 13, ground := Ground.guard }], guard := some (13, true) } : Oper)) (v := ?vzm17) rfl (by kernel_rfl) (by kernel_rfl) (by kernel_rfl) (fun _ _ _ h => h) (Or.inl ⟨by rfl, fun w hSw => ?hyzm17⟩) (by assumption) ?rzm17
  case hyzm17 => (try dsimp only at hSw); go_simp; (try with_reducible rfl)
  (try simp only [Act.put, List.setIfInBounds_toArray, List.set_cons_zero, List.set_cons_succ])
  refine wpAnyH_take (i := 17) (oi := ({ dst := some 108, op := Op.load 26 (Operand.tmp 107), type := 26, pos := "outright.go:164", after := #[{ on := 16, ground := Ground.data }, { on := 13, ground := Ground.guard }], guard := some (13, true) } : Oper)) (v := ?vzm18) rfl (by kernel_rfl) (by kernel_rfl) (by kernel_rfl) (fun _ _ _ h => h) (Or.inl ⟨by rfl, fun w hSw => ?hyzm18⟩) (by assumption) ?rzm18
  case hyzm18 => (try dsimp only at hSw); go_simp; (try with_reducible rfl)
  (try simp only [Act.put, List.setIfInBounds_toArray, List.set_cons_zero, List.set_cons_succ])
  refine wpAnyH_take (i := 18) (oi := ({ dst := some 109, op := Op.load 39 (Operand.tmp 10), type := 39, pos := "outright.go:164", after := #[{ on := 13, ground := Ground.guard }], guard := some (13, true) } : Oper)) (v := ?vzm19) rfl (by kernel_rfl) (by kernel_rfl) (by kernel_rfl) (fun _ _ _ h => h) (Or.inl ⟨by rfl, fun w hSw => ?hyzm19⟩) (by assumption) ?rzm19
  case hyzm19 => (try dsimp only at hSw); go_simp; (try with_reducible rfl)
  (try simp only [Act.put, List.setIfInBounds_toArray, List.set_cons_zero, List.set_cons_succ])
  refine wpAnyH_ready (rs := [19]) (by kernel_rfl) (by simp) ?_
  refine AllReadyH.cons (o := ({ dst := some 110, op := Op.call { callee := Callee.value (Operand.func 12), args := #[Operand.tmp 109], argTypes := #[39] }, type := 37, pos := "outright.go:164", after := #[{ on := 18, ground := Ground.data }, { on := 13, ground := Ground.chain }, { on := 13, ground := Ground.guard }], guard := some (13, true) } : Oper)) rfl (fun Kq hKq => ?_) AllReadyH.nil
  go_simp
  (refine (HLK.out _).mono ?_; rintro e w18 ⟨rfl, hb18⟩; have HB18 := Lib.hid hb18; have H18 := Lib.hid (H17.out.new ((Below.refl _ _).drew.trans hb18)); clear hb18)
  refine hKq.out _ _ ?_ (fun hHeld => ?_)
  · exact ⟨bcell HB18.out hHeld.1, bcell HB18.out hHeld.2.1, bcell HB18.out hHeld.2.2.1, bcell HB18.out hHeld.2.2.2.1, bcell HB18.out hHeld.2.2.2.2⟩
  clear hKq Kq
  (try simp only [Act.put, List.setIfInBounds_toArray, List.set_cons_zero, List.set_cons_succ])
  refine wpAnyH_ready (rs := [20]) (by kernel_rfl) (by simp) ?_
  refine AllReadyH.cons (o := ({ dst := some 111, op := Op.call { callee := Callee.value (Operand.func 11), args := #[Operand.tmp 108, Operand.tmp 110], argTypes := #[26, 37] }, type := 25, pos := "outright.go:164", after := #[{ on := 17, ground := Ground.data }, { on := 19, ground := Ground.data }, { on := 19, ground := Ground.chain }, { on := 13, ground := Ground.guard }], guard := some (13, true) } : Oper)) rfl (fun Kq hKq => ?_) AllReadyH.nil
  go_simp
  (have hpk := pg_peek H18.out (a := a) (by have := HAI.out; omega); rw [HTK2.out.at_a, HCB.out] at hpk; refine hpk.mono ?_; rintro e w19 ⟨rfl, rfl⟩; clear hpk)
  refine hKq.out _ _ ?_ (fun hHeld => ?_)
  · exact hHeld
  clear hKq Kq
  (try simp only [Act.put, List.setIfInBounds_toArray, List.set_cons_zero, List.set_cons_succ])
  refine wpAnyH_take (i := 21) (oi := ({ dst := some 112, op := Op.binOp BinOp.eql 25 (Operand.tmp 111) (Operand.const (Value.int IntKind.u64 1)) 25, type := 4, pos := "outright.go:164", after := #[{ on := 20, ground := Ground.data }, { on := 13, ground := Ground.guard }], guard := some (13, true) } : Oper)) (v := ?vzm20) rfl (by kernel_rfl) (by kernel_rfl) (by kernel_rfl) (fun _ _ _ h => h) (Or.inl ⟨by rfl, fun w hSw => ?hyzm20⟩) (by assumption) ?rzm20
  case hyzm20 => (try dsimp only at hSw); go_simp; (try with_reducible rfl)
  (try simp only [Act.put, List.setIfInBounds_toArray, List.set_cons_zero, List.set_cons_succ])
  refine wpAnyH_take (i := 22) (oi := ({ dst := some 113, op := Op.pick (Operand.tmp 104) (Operand.tmp 112) (Operand.const (Value.bool false)), type := 4, pos := "outright.go:164", after := #[{ on := 13, ground := Ground.data }, { on := 21, ground := Ground.data }], guard := none } : Oper)) (v := ?vzm21) rfl (by kernel_rfl) (by kernel_rfl) (by kernel_rfl) (fun _ _ _ h => h) (Or.inl ⟨by rfl, fun w hSw => ?hyzm21⟩) (by assumption) ?rzm21
  case hyzm21 => (try dsimp only at hSw); go_simp; (try with_reducible rfl)
  (try simp only [Act.put, List.setIfInBounds_toArray, List.set_cons_zero, List.set_cons_succ])
  refine wpAnyH_take (i := 23) (oi := ({ dst := some 114, op := Op.move (Operand.tmp 113), type := 4, pos := "outright.go:164", after := #[{ on := 22, ground := Ground.data }, { on := 20, ground := Ground.chain }], guard := none } : Oper)) (v := ?vzm22) rfl (by kernel_rfl) (by kernel_rfl) (by kernel_rfl) (fun _ _ _ h => h) (Or.inl ⟨by rfl, fun w hSw => ?hyzm22⟩) (by assumption) ?rzm22
  case hyzm22 => (try dsimp only at hSw); go_simp; (try with_reducible rfl)
  (try simp only [Act.put, List.setIfInBounds_toArray, List.set_cons_zero, List.set_cons_succ])
  refine wpAnyH_take (i := 24) (oi := ({ dst := some 115, op := Op.fieldAddr 39 (Operand.tmp 10) 0, type := 0, pos := "outright.go:164", after := #[{ on := 23, ground := Ground.guard }], guard := some (23, true) } : Oper)) (v := ?vzm23) rfl (by kernel_rfl) (by kernel_rfl) (by kernel_rfl) (fun _ _ _ h => h) (Or.inl ⟨by rfl, fun w hSw => ?hyzm23⟩) (by assumption) ?rzm23
  case hyzm23 => (try dsimp only at hSw); go_simp; (try with_reducible rfl)
  (try simp only [Act.put, List.setIfInBounds_toArray, List.set_cons_zero, List.set_cons_succ])
  refine wpAnyH_take (i := 25) (oi := ({ dst := some 116, op := Op.load 3 (Operand.tmp 115), type := 3, pos := "outright.go:164", after := #[{ on := 24, ground := Ground.data }, { on := 23, ground := Ground.guard }], guard := some (23, true) } : Oper)) (v := ?vzm24) rfl (by kernel_rfl) (by kernel_rfl) (by kernel_rfl) (fun _ _ _ h => h) (Or.inl ⟨by rfl, fun w hSw => ?hyzm24⟩) (by assumption) ?rzm24
  case hyzm24 => (try dsimp only at hSw); go_simp; (try with_reducible rfl)
  (try simp only [Act.put, List.setIfInBounds_toArray, List.set_cons_zero, List.set_cons_succ])
  refine wpAnyH_take (i := 26) (oi := ({ dst := some 117, op := Op.move (Operand.tmp 8), type := 25, pos := "outright.go:164", after := #[{ on := 23, ground := Ground.guard }], guard := some (23, true) } : Oper)) (v := ?vzm25) rfl (by kernel_rfl) (by kernel_rfl) (by kernel_rfl) (fun _ _ _ h => h) (Or.inl ⟨by rfl, fun w hSw => ?hyzm25⟩) (by assumption) ?rzm25
  case hyzm25 => (try dsimp only at hSw); go_simp; (try with_reducible rfl)
  (try simp only [Act.put, List.setIfInBounds_toArray, List.set_cons_zero, List.set_cons_succ])
  refine wpAnyH_take (i := 27) (oi := ({ dst := some 118, op := Op.convert 25 3 (Operand.tmp 117), type := 3, pos := "outright.go:164", after := #[{ on := 26, ground := Ground.data }, { on := 23, ground := Ground.guard }], guard := some (23, true) } : Oper)) (v := ?vzm26) rfl (by kernel_rfl) (by kernel_rfl) (by kernel_rfl) (fun _ _ _ h => h) (Or.inl ⟨by rfl, fun w hSw => ?hyzm26⟩) (by assumption) ?rzm26
  case hyzm26 => (try dsimp only at hSw); go_simp; (try with_reducible rfl)
  (try simp only [Act.put, List.setIfInBounds_toArray, List.set_cons_zero, List.set_cons_succ])
  refine wpAnyH_take (i := 28) (oi := ({ dst := some 119, op := Op.binOp BinOp.eql 3 (Operand.tmp 116) (Operand.tmp 118) 3, type := 4, pos := "outright.go:164", after := #[{ on := 25, ground := Ground.data }, { on := 27, ground := Ground.data }, { on := 23, ground := Ground.guard }], guard := some (23, true) } : Oper)) (v := ?vzm27) rfl (by kernel_rfl) (by kernel_rfl) (by kernel_rfl) (fun _ _ _ h => h) (Or.inl ⟨by rfl, fun w hSw => ?hyzm27⟩) (by assumption) ?rzm27
  case hyzm27 => (try dsimp only at hSw); go_simp; (try with_reducible rfl)
  (try simp only [Act.put, List.setIfInBounds_toArray, List.set_cons_zero, List.set_cons_succ])
  refine wpAnyH_take (i := 29) (oi := ({ dst := some 120, op := Op.pick (Operand.tmp 114) (Operand.tmp 119) (Operand.const (Value.bool false)), type := 4, pos := "outright.go:164", after := #[{ on := 23, ground := Ground.data }, { on := 28, ground := Ground.data }], guard := none } : Oper)) (v := ?vzm28) rfl (by kernel_rfl) (by kernel_rfl) (by kernel_rfl) (fun _ _ _ h => h) (Or.inl ⟨by rfl, fun w hSw => ?hyzm28⟩) (by assumption) ?rzm28
  case hyzm28 => (try dsimp only at hSw); go_simp; (try with_reducible rfl)
  (try simp only [Act.put, List.setIfInBounds_toArray, List.set_cons_zero, List.set_cons_succ])
  refine wpAnyH_take (i := 30) (oi := ({ dst := some 121, op := Op.move (Operand.tmp 120), type := 4, pos := "outright.go:164", after := #[{ on := 29, ground := Ground.data }, { on := 23, ground := Ground.chain }], guard := none } : Oper)) (v := ?vzm29) rfl (by kernel_rfl) (by kernel_rfl) (by kernel_rfl) (fun _ _ _ h => h) (Or.inl ⟨by rfl, fun w hSw => ?hyzm29⟩) (by assumption) ?rzm29
  case hyzm29 => (try dsimp only at hSw); go_simp; (try with_reducible rfl)
  (try simp only [Act.put, List.setIfInBounds_toArray, List.set_cons_zero, List.set_cons_succ])
  refine wpAnyH_ready (rs := [31]) (by kernel_rfl) (by simp) ?_
  refine AllReadyH.cons (o := ({ dst := some 122, op := Op.call { callee := Callee.value (Operand.func 16), args := #[], argTypes := #[] }, type := 4, pos := "outright.go:164", after := #[{ on := 30, ground := Ground.chain }, { on := 30, ground := Ground.guard }], guard := some (30, true) } : Oper)) rfl (fun Kq hKq => ?_) AllReadyH.nil
  go_simp
  (refine (HLV.out _).mono ?_; rintro e w20 ⟨rfl, hb20⟩; have HB20 := Lib.hid hb20; have H20 := Lib.hid (H18.out.new hb20); clear hb20)
  refine hKq.out _ _ ?_ (fun hHeld => ?_)
  · exact ⟨bcell HB20.out hHeld.1, bcell HB20.out hHeld.2.1, bcell HB20.out hHeld.2.2.1, bcell HB20.out hHeld.2.2.2.1, bcell HB20.out hHeld.2.2.2.2⟩
  clear hKq Kq
  (try simp only [Act.put, List.setIfInBounds_toArray, List.set_cons_zero, List.set_cons_succ])
  refine wpAnyH_take (i := 32) (oi := ({ dst := some 123, op := Op.pick (Operand.tmp 121) (Operand.tmp 122) (Operand.const (Value.bool false)), type := 4, pos := "outright.go:164", after := #[{ on := 30, ground := Ground.data }, { on := 31, ground := Ground.data }], guard := none } : Oper)) (v := ?vzm30) rfl (by kernel_rfl) (by kernel_rfl) (by kernel_rfl) (fun _ _ _ h => h) (Or.inl ⟨by rfl, fun w hSw => ?hyzm30⟩) (by assumption) ?rzm30
  case hyzm30 => (try dsimp only at hSw); go_simp; (try with_reducible rfl)
  (try simp only [Act.put, List.setIfInBounds_toArray, List.set_cons_zero, List.set_cons_succ])
  refine wpAnyH_take (i := 33) (oi := ({ dst := some 6, op := Op.assign (Operand.tmp 123), type := 4, pos := "outright.go:164", after := #[{ on := 32, ground := Ground.data }, { on := 31, ground := Ground.chain }, { on := 0, ground := Ground.phase }, { on := 1, ground := Ground.phase }, { on := 2, ground := Ground.phase }, { on := 3, ground := Ground.phase }, { on := 4, ground := Ground.phase }, { on := 5, ground := Ground.phase }, { on := 6, ground := Ground.phase }, { on := 7, ground := Ground.phase }, { on := 8, ground := Ground.phase }, { on := 9, ground := Ground.phase }, { on := 10, ground := Ground.phase }, { on := 11, ground := Ground.phase }, { on := 12, ground := Ground.phase }, { on := 13, ground := Ground.phase }, { on := 14, ground := Ground.phase }, { on := 15, ground := Ground.phase }, { on := 16, ground := Ground.phase }, { on := 17, ground := Ground.phase }, { on := 18, ground := Ground.phase }, { on := 19, ground := Ground.phase }, { on := 20, ground := Ground.phase }, { on := 21, ground := Ground.phase }, { on := 22, ground := Ground.phase }, { on := 23, ground := Ground.phase }, { on := 24, ground := Ground.phase }, { on := 25, ground := Ground.phase }, { on := 26, ground := Ground.phase }, { on := 27, ground := Ground.phase }, { on := 28, ground := Ground.phase }, { on := 29, ground := Ground.phase }, { on := 30, ground := Ground.phase }, { on := 31, ground := Ground.phase }, { on := 32, ground := Ground.phase }], guard := none } : Oper)) (v := ?vzm31) rfl (by kernel_rfl) (by kernel_rfl) (by kernel_rfl) (fun _ _ _ h => h) (Or.inl ⟨by rfl, fun w hSw => ?hyzm31⟩) (by assumption) ?rzm31
  case hyzm31 => (try dsimp only at hSw); go_simp; (try with_reducible rfl)
  (try simp only [Act.put, List.setIfInBounds_toArray, List.set_cons_zero, List.set_cons_succ])
  refine wpAnyH_done (by kernel_rfl) ?_ _
  go_wp2_with fail
  go_ret
  exact ⟨rfl, H20.out.bl⟩
end Go.Proofs.Ytdfokceecnmocaa.S15
