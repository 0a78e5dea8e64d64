/- What it entered stands where its key hashes to; the table is replaced. -/
import Derived.Test.YthafnphpcdbnlaaGreatS15Rc
set_option linter.unusedVariables false
set_option linter.unusedSimpArgs false
namespace Go.Proofs.YthafnphpcdbnlaaGreat.S15
open Go.Proofs.YthafnphpcdbnlaaGreat Go.Proofs.YthafnphpcdbnlaaGreat.S11 Go.Proofs.YthafnphpcdbnlaaGreat.S12 Go.Proofs.YthafnphpcdbnlaaGreat.S13 Go.Proofs.YthafnphpcdbnlaaGreat.S14
open Go.RowKit

theorem eqlP (b i : Int) (w : World) : (binOp .eql 64 (.agg #[.int .i64 b, .int .i64 i]) (.agg #[.int .i64 b, .int .i64 i])).run Tryz.prog w = .ok (.bool true) w := by
  simp [go_sem, Tryz.underlying64]
theorem wrap_few {i : Nat} (h : i < 4) : IntKind.u32.wrap (i : Int) = (i : Int) ∧ IntKind.u32.wrap (64 + (i : Int)) = ((64 + i : Nat) : Int) := ⟨by rw [IntKind.wrap_u32]; omega, by rw [IntKind.wrap_u32]; omega⟩
theorem wrap_key {k : Nat} (h : k < 65536) : IntKind.u64.wrap (k : Int) = (k : Int) := by rw [IntKind.wrap_u64]; omega
section
variable {w0 w w' : World} {base WB AB j u q : Nat} {M : Sd} {r r' : List Part} {C : Nat → Value} {X : Wm} {i : Nat} {R : Nat → Rn} {E : En} {F : Fr} {Z : Wb}
set_option maxRecDepth 100000 in
set_option maxHeartbeats 4000000 in
theorem fits_own (h : Runs w0 w base WB AB M R r C X) (hi : i < 4) (hr : R i = ⟨1, E, F⟩) (h0 : E.ln = 0) (ho : E.ow = true) :
    Calls Tryz.prog 12 #[Pq AB (5 * i), Pw WB] w fun e w' => e = .returned (.bool true) ∧ Below w.heap.size w w' := by
  obtain ⟨ra, _, rc⟩ := h.at_ i hi
  rw [hr] at rc
  obtain ⟨Z, d3, hW⟩ : ∃ Z : Wb, C (5 * i + 3) = Pw Z.B ∧ WayIn r (1 + 2 * i) (2 + 2 * i) E Z := by
    rcases rc with ⟨c1, _⟩ | ⟨c1, c2, _⟩ | ⟨c1, c2, c3, c4, Z, c5, c6⟩ | ⟨c1, _⟩
    · cases c1
    · exact absurd c2 (by rw [show (⟨1, E, F⟩ : Rn).E.ow = E.ow from rfl, ho]; decide)
    · exact ⟨Z, c5, c6⟩
    · cases c1
  have hok : EnOk E := by have := h.eok i hi (by rw [hr]); rwa [hr] at this
  have hkw : E.kw < 65536 := by have := (h.inv.ok i hi).ky (by rw [hr]); rwa [hr] at this
  have htb : S2.look M.L 0 = E.tw := by have := h.inv.tb i hi (by rw [hr]) (by rw [hr]; exact .inr h0); rwa [hr] at this
  have hky : S2.look M.L (64 + i) = E.kw := by have := h.inv.ky i hi (by rw [hr]) (by rw [hr]; exact ho) (by rw [hr]; exact h0); rwa [hr] at this
  have hew := hW.ew h.rw'.pg (by omega) (by rw [h.rw'.len]; omega)
  obtain ⟨p1, p2⟩ := hew.pl (.inr h0)
  rw [Nat.mod_eq_of_lt (show E.kw < 4294967296 by omega)] at p2
  have hgot := fun W (hb : Below w.heap.size w W) => ogot_yes (hew.new hb).wy (at_end0 hok (hew.new hb) h0)
  rw [p1, p2, Nat.mod_eq_of_lt (show E.kw < 4294967296 by omega)] at hgot
  have htw : E.tw < 18446744073709551616 := hok.tw
  have hpl := fun W => place_any E.kw E.tw (by omega) htw W
  have hpk0 := fun W (hb : Below w.heap.size w W) => pg_peek (h.rw'.new hb).pg (a := 0) (by omega)
  have hpk1 := fun W (hb : Below w.heap.size w W) => pg_peek (h.rw'.new hb).pg (a := 64 + i) (by omega)
  rw [htb] at hpk0
  rw [hky] at hpk1
  have hcl : ∀ W, Below w.heap.size w W → W.cell? ⟨AB, 5 * i, none⟩ = some (.int .i64 (i : Int)) ∧ W.cell? ⟨AB, 5 * i + 3, none⟩ = some (Pw Z.B) ∧ W.cell? ⟨WB, 0, none⟩ = some (Pw X.cB) := fun W hb => ⟨(h.rw'.new hb).c (by omega) ra, (h.rw'.new hb).c (by omega) d3, (h.rw'.new hb).pg.c.1⟩
  obtain ⟨wr1, wr2⟩ := wrap_few hi
  have wk := wrap_key hkw
  have HGOT := Lib.hid hgot; have HPL := Lib.hid hpl; have HP0 := Lib.hid hpk0; have HP1 := Lib.hid hpk1; have HCL := Lib.hid hcl
  have c00 := (hcl _ (Below.refl _ _)).2.2
  have HBP := Lib.hid (fun W => eqlP (bitsN E.tw : Int) (bktN E.kw E.tw : Int) W)
  clear h hi hr h0 ho ra rc d3 hW hok hkw htb hky hew p1 p2 hgot hpl hpk0 hpk1 hcl htw
  unfold placeV at HPL
  generalize (bitsN E.tw : Int) = pb at *
  generalize (bktN E.kw E.tw : Int) = pi at *
  generalize E.kw = key at *
  generalize E.tw = tw at *
  generalize Z.B = ZB at *
  go_enter Tryz.func12, Tryz.ntmps12
  go_upto_region 2 with (go_at_call 11; refine (HP0.out _ (Below.refl _ _)).mono ?_; rintro e w1 ⟨rfl, rfl⟩)
  have y3 := (HCL.out _ (Below.refl _ _)).2.1
  have HG := Lib.hid (HGOT.out _ (Below.refl _ _))
  go_upto_region 4 with (go_at_call 25; refine HG.out.mono ?_; rintro e w2 ⟨rfl, hb2⟩; have HB2 := Lib.hid hb2; clear hb2)
  have z0 : (w2.alloc (.cells #[.int .i64 pb, .int .i64 pi] 64)).cell? ⟨w2.heap.size, 0, none⟩ = some (.int .i64 pb) := cell_row (heap_alloc_new w2 _) 0
  have z1 : (w2.alloc (.cells #[.int .i64 pb, .int .i64 pi] 64)).cell? ⟨w2.heap.size, 1, none⟩ = some (.int .i64 pi) := cell_row (heap_alloc_new w2 _) 1
  have hb3 := HB2.out.trans ((below1 w2 (.cells #[.int .i64 pb, .int .i64 pi] 64)).mono HB2.out.size)
  obtain ⟨Q, hQ⟩ : ∃ Q, Q = w2.heap.size := ⟨_, rfl⟩
  obtain ⟨w3, hw3⟩ : ∃ w3, w3 = w2.alloc (.cells #[.int .i64 pb, .int .i64 pi] 64) := ⟨_, rfl⟩
  have hlt : Q < w3.heap.size := by rw [hw3, hQ]; simp
  rw [← hw3] at hb3 z0 z1 ⊢
  rw [← hQ] at z0 z1 ⊢
  clear hw3 hQ
  have HD : Hid (Below w.heap.size w w3) := Lib.hid hb3
  have hs : ∀ W, Below w3.heap.size w3 W → Below w3.heap.size w3 W ∧ W.cell? ⟨Q, 0, none⟩ = some (.int .i64 pb) ∧ W.cell? ⟨Q, 1, none⟩ = some (.int .i64 pi) ∧ W.cell? ⟨AB, 5 * i, none⟩ = some (.int .i64 (i : Int)) ∧ W.cell? ⟨WB, 0, none⟩ = some (Pw X.cB) := fun W hb => by
    have g := HCL.out W (HD.out.trans (hb.mono HD.out.size))
    exact ⟨hb, (hb.cell (p := ⟨Q, 0, none⟩) hlt).trans z0, (hb.cell (p := ⟨Q, 1, none⟩) hlt).trans z1, g.1, g.2.2⟩
  have HS := Lib.hid hs
  have hbp := HBP.out
  clear hs hb3 z0 z1 y3 c00 hlt
  refine wp_region_held_drew (S := fun w' => Below w3.heap.size w3 w' ∧ w'.cell? ⟨Q, 0, none⟩ = some (.int .i64 pb) ∧ w'.cell? ⟨Q, 1, none⟩ = some (.int .i64 pi) ∧ w'.cell? ⟨AB, 5 * i, none⟩ = some (.int .i64 (i : Int)) ∧ w'.cell? ⟨WB, 0, none⟩ = some (Pw X.cB)) (by kernel_rfl) ?_ (fun hHeld => ?_)
  · exact HS.out _ (Below.refl _ _).drew
  refine wpAnyH_take (i := 0) (oi := ({ dst := some 26, op := Op.load 64 (Operand.tmp 6), type := 64, pos := "outright.go:81", after := #[], guard := none } : Oper)) (v := ?vfo0) rfl (by kernel_rfl) (by kernel_rfl) (by kernel_rfl) (fun _ _ _ h => h) (Or.inl ⟨by rfl, fun w hSw => ?hyfo0⟩) (by assumption) ?rfo0
  case hyfo0 => (try dsimp only at hSw); go_simp; (try with_reducible rfl)
  (try simp only [Act.put, List.setIfInBounds_toArray, List.set_cons_zero, List.set_cons_succ])
  refine wpAnyH_take (i := 1) (oi := ({ dst := some 27, op := Op.move (Operand.tmp 7), type := 30, pos := "outright.go:81", after := #[], guard := none } : Oper)) (v := ?vfo1) rfl (by kernel_rfl) (by kernel_rfl) (by kernel_rfl) (fun _ _ _ h => h) (Or.inl ⟨by rfl, fun w hSw => ?hyfo1⟩) (by assumption) ?rfo1
  case hyfo1 => (try dsimp only at hSw); go_simp; (try with_reducible rfl)
  (try simp only [Act.put, List.setIfInBounds_toArray, List.set_cons_zero, List.set_cons_succ])
  refine wpAnyH_take (i := 2) (oi := ({ dst := some 28, op := Op.move (Operand.tmp 5), type := 36, pos := "outright.go:81", after := #[], guard := none } : Oper)) (v := ?vfo2) rfl (by kernel_rfl) (by kernel_rfl) (by kernel_rfl) (fun _ _ _ h => h) (Or.inl ⟨by rfl, fun w hSw => ?hyfo2⟩) (by assumption) ?rfo2
  case hyfo2 => (try dsimp only at hSw); go_simp; (try with_reducible rfl)
  (try simp only [Act.put, List.setIfInBounds_toArray, List.set_cons_zero, List.set_cons_succ])
  refine wpAnyH_ready (rs := [3]) (by kernel_rfl) (by simp) ?_
  refine AllReadyH.cons (o := ({ dst := some 29, op := Op.call { callee := Callee.value (Operand.func 31), args := #[Operand.tmp 27, Operand.tmp 28], argTypes := #[30, 36] }, type := 64, pos := "outright.go:81", after := #[{ on := 1, ground := Ground.data }, { on := 2, ground := Ground.data }], guard := none } : Oper)) rfl (fun Kq hKq => ?_) AllReadyH.nil
  go_simp
  (refine (HPL.out _).mono ?_; rintro e w5 ⟨rfl, hb5⟩)
  refine hKq.out _ _ ?_ (fun hHeld => ?_)
  · exact HS.out _ (hHeld.1.trans (hb5.mono hHeld.1.size))
  clear hKq Kq
  (try simp only [Act.put, List.setIfInBounds_toArray, List.set_cons_zero, List.set_cons_succ])
  refine wpAnyH_take (i := 4) (oi := ({ dst := some 30, op := Op.binOp BinOp.eql 64 (Operand.tmp 26) (Operand.tmp 29) 64, type := 4, pos := "outright.go:81", after := #[{ on := 0, ground := Ground.data }, { on := 3, ground := Ground.data }], guard := none } : Oper)) (v := ?vfo4) rfl (by kernel_rfl) (by kernel_rfl) (by kernel_rfl) (fun _ _ _ h => h) (Or.inl ⟨by rfl, fun w hSw => ?hyfo4⟩) (by assumption) ?rfo4
  case hyfo4 => (try dsimp only at hSw); go_simp; (try with_reducible rfl)
  (try simp only [Act.put, List.setIfInBounds_toArray, List.set_cons_zero, List.set_cons_succ])
  refine wpAnyH_take (i := 5) (oi := ({ dst := some 31, op := Op.move (Operand.tmp 30), type := 4, pos := "outright.go:81", after := #[{ on := 4, ground := Ground.data }, { on := 3, ground := Ground.chain }], guard := none } : Oper)) (v := ?vfo5) rfl (by kernel_rfl) (by kernel_rfl) (by kernel_rfl) (fun _ _ _ h => h) (Or.inl ⟨by rfl, fun w hSw => ?hyfo5⟩) (by assumption) ?rfo5
  case hyfo5 => (try dsimp only at hSw); go_simp; (try with_reducible rfl)
  (try simp only [Act.put, List.setIfInBounds_toArray, List.set_cons_zero, List.set_cons_succ])
  refine wpAnyH_take (i := 6) (oi := ({ dst := some 32, op := Op.move (Operand.tmp 7), type := 30, pos := "outright.go:81", after := #[{ on := 5, ground := Ground.guard }], guard := some (5, true) } : Oper)) (v := ?vfo6) rfl (by kernel_rfl) (by kernel_rfl) (by kernel_rfl) (fun _ _ _ h => h) (Or.inl ⟨by rfl, fun w hSw => ?hyfo6⟩) (by assumption) ?rfo6
  case hyfo6 => (try dsimp only at hSw); go_simp; (try with_reducible rfl)
  (try simp only [Act.put, List.setIfInBounds_toArray, List.set_cons_zero, List.set_cons_succ])
  refine wpAnyH_take (i := 7) (oi := ({ dst := some 33, op := Op.convert 30 36 (Operand.tmp 32), type := 36, pos := "outright.go:81", after := #[{ on := 6, ground := Ground.data }, { on := 5, ground := Ground.guard }], guard := some (5, true) } : Oper)) (v := ?vfo7) rfl (by kernel_rfl) (by kernel_rfl) (by kernel_rfl) (fun _ _ _ h => h) (Or.inl ⟨by rfl, fun w hSw => ?hyfo7⟩) (by assumption) ?rfo7
  case hyfo7 => (try dsimp only at hSw); go_simp; (try with_reducible rfl)
  (try simp only [Act.put, List.setIfInBounds_toArray, List.set_cons_zero, List.set_cons_succ])
  refine wpAnyH_take (i := 8) (oi := ({ dst := some 34, op := Op.move (Operand.tmp 1), type := 25, pos := "outright.go:81", after := #[{ on := 5, ground := Ground.guard }], guard := some (5, true) } : Oper)) (v := ?vfo8) rfl (by kernel_rfl) (by kernel_rfl) (by kernel_rfl) (fun _ _ _ h => h) (Or.inl ⟨by rfl, fun w hSw => ?hyfo8⟩) (by assumption) ?rfo8
  case hyfo8 => (try dsimp only at hSw); go_simp; (try with_reducible rfl)
  (try simp only [Act.put, List.setIfInBounds_toArray, List.set_cons_zero, List.set_cons_succ])
  refine wpAnyH_take (i := 9) (oi := ({ dst := some 35, op := Op.nilCheck (Operand.tmp 34), type := 0, pos := "outright.go:81", after := #[{ on := 8, ground := Ground.data }, { on := 5, ground := Ground.guard }], guard := some (5, true) } : Oper)) (v := ?vfo9) rfl (by kernel_rfl) (by kernel_rfl) (by kernel_rfl) (fun _ _ _ h => h) (Or.inl ⟨by rfl, fun w hSw => ?hyfo9⟩) (by assumption) ?rfo9
  case hyfo9 => (try dsimp only at hSw); go_simp; (try with_reducible rfl)
  (try simp only [Act.put, List.setIfInBounds_toArray, List.set_cons_zero, List.set_cons_succ])
  refine wpAnyH_take (i := 10) (oi := ({ dst := some 36, op := Op.fieldAddr 45 (Operand.tmp 35) 0, type := 0, pos := "outright.go:81", after := #[{ on := 9, ground := Ground.data }, { on := 5, ground := Ground.guard }], guard := some (5, true) } : Oper)) (v := ?vfo10) rfl (by kernel_rfl) (by kernel_rfl) (by kernel_rfl) (fun _ _ _ h => h) (Or.inl ⟨by rfl, fun w hSw => ?hyfo10⟩) (by assumption) ?rfo10
  case hyfo10 => (try dsimp only at hSw); go_simp; (try with_reducible rfl)
  (try simp only [Act.put, List.setIfInBounds_toArray, List.set_cons_zero, List.set_cons_succ])
  refine wpAnyH_take (i := 11) (oi := ({ dst := some 37, op := Op.load 37 (Operand.tmp 36), type := 37, pos := "outright.go:81", after := #[{ on := 10, ground := Ground.data }, { on := 5, ground := Ground.guard }], guard := some (5, true) } : Oper)) (v := ?vfo11) rfl (by kernel_rfl) (by kernel_rfl) (by kernel_rfl) (fun _ _ _ h => h) (Or.inl ⟨by rfl, fun w hSw => ?hyfo11⟩) (by assumption) ?rfo11
  case hyfo11 => (try dsimp only at hSw); go_simp; (try with_reducible rfl)
  (try simp only [Act.put, List.setIfInBounds_toArray, List.set_cons_zero, List.set_cons_succ])
  refine wpAnyH_take (i := 12) (oi := ({ dst := some 38, op := Op.move (Operand.tmp 0), type := 76, pos := "outright.go:81", after := #[{ on := 5, ground := Ground.guard }], guard := some (5, true) } : Oper)) (v := ?vfo12) rfl (by kernel_rfl) (by kernel_rfl) (by kernel_rfl) (fun _ _ _ h => h) (Or.inl ⟨by rfl, fun w hSw => ?hyfo12⟩) (by assumption) ?rfo12
  case hyfo12 => (try dsimp only at hSw); go_simp; (try with_reducible rfl)
  (try simp only [Act.put, List.setIfInBounds_toArray, List.set_cons_zero, List.set_cons_succ])
  refine wpAnyH_take (i := 13) (oi := ({ dst := some 39, op := Op.nilCheck (Operand.tmp 38), type := 0, pos := "outright.go:81", after := #[{ on := 12, ground := Ground.data }, { on := 5, ground := Ground.guard }], guard := some (5, true) } : Oper)) (v := ?vfo13) rfl (by kernel_rfl) (by kernel_rfl) (by kernel_rfl) (fun _ _ _ h => h) (Or.inl ⟨by rfl, fun w hSw => ?hyfo13⟩) (by assumption) ?rfo13
  case hyfo13 => (try dsimp only at hSw); go_simp; (try with_reducible rfl)
  (try simp only [Act.put, List.setIfInBounds_toArray, List.set_cons_zero, List.set_cons_succ])
  refine wpAnyH_take (i := 14) (oi := ({ dst := some 40, op := Op.fieldAddr 35 (Operand.tmp 39) 0, type := 0, pos := "outright.go:81", after := #[{ on := 13, ground := Ground.data }, { on := 5, ground := Ground.guard }], guard := some (5, true) } : Oper)) (v := ?vfo14) rfl (by kernel_rfl) (by kernel_rfl) (by kernel_rfl) (fun _ _ _ h => h) (Or.inl ⟨by rfl, fun w hSw => ?hyfo14⟩) (by assumption) ?rfo14
  case hyfo14 => (try dsimp only at hSw); go_simp; (try with_reducible rfl)
  (try simp only [Act.put, List.setIfInBounds_toArray, List.set_cons_zero, List.set_cons_succ])
  refine wpAnyH_take (i := 15) (oi := ({ dst := some 41, op := Op.load 3 (Operand.tmp 40), type := 3, pos := "outright.go:81", after := #[{ on := 14, ground := Ground.data }, { on := 5, ground := Ground.guard }], guard := some (5, true) } : Oper)) (v := ?vfo15) rfl (by kernel_rfl) (by kernel_rfl) (by kernel_rfl) (fun _ _ _ h => h) (Or.inl ⟨by rfl, fun w hSw => ?hyfo15⟩) (by assumption) ?rfo15
  case hyfo15 => (try dsimp only at hSw); go_simp; (try with_reducible rfl)
  (try simp only [Act.put, List.setIfInBounds_toArray, List.set_cons_zero, List.set_cons_succ])
  refine wpAnyH_take (i := 16) (oi := ({ dst := some 42, op := Op.convert 3 30 (Operand.tmp 41), type := 30, pos := "outright.go:81", after := #[{ on := 15, ground := Ground.data }, { on := 5, ground := Ground.guard }], guard := some (5, true) } : Oper)) (v := ?vfo16) rfl (by kernel_rfl) (by kernel_rfl) (by kernel_rfl) (fun _ _ _ h => h) (Or.inl ⟨by rfl, fun w hSw => ?hyfo16⟩) (by assumption) ?rfo16
  case hyfo16 => (try dsimp only at hSw); go_simp; (try with_reducible rfl)
  (try simp only [Act.put, List.setIfInBounds_toArray, List.set_cons_zero, List.set_cons_succ])
  refine wpAnyH_take (i := 17) (oi := ({ dst := some 43, op := Op.binOp BinOp.add 30 (Operand.const (Value.int IntKind.u32 64)) (Operand.tmp 42) 30, type := 30, pos := "outright.go:81", after := #[{ on := 16, ground := Ground.data }, { on := 5, ground := Ground.guard }], guard := some (5, true) } : Oper)) (v := ?vfo17) rfl (by kernel_rfl) (by kernel_rfl) (by kernel_rfl) (fun _ _ _ h => h) (Or.inl ⟨by rfl, fun w hSw => ?hyfo17⟩) (by assumption) ?rfo17
  case hyfo17 => (try dsimp only at hSw); go_simp; (try with_reducible rfl)
  (try simp only [Act.put, List.setIfInBounds_toArray, List.set_cons_zero, List.set_cons_succ])
  refine wpAnyH_ready (rs := [18]) (by kernel_rfl) (by simp) ?_
  refine AllReadyH.cons (o := ({ dst := some 44, op := Op.call { callee := Callee.value (Operand.func 11), args := #[Operand.tmp 37, Operand.tmp 43], argTypes := #[37, 30] }, type := 36, pos := "outright.go:81", after := #[{ on := 11, ground := Ground.data }, { on := 17, ground := Ground.data }, { on := 5, ground := Ground.chain }, { on := 5, ground := Ground.guard }], guard := some (5, true) } : Oper)) rfl (fun Kq hKq => ?_) AllReadyH.nil
  go_simp
  (refine (HP1.out _ (HD.out.trans (hHeld.1.mono HD.out.size))).mono ?_; rintro e w6 ⟨rfl, rfl⟩)
  refine hKq.out _ _ ?_ (fun hHeld => ?_)
  · exact hHeld
  clear hKq Kq
  (try simp only [Act.put, List.setIfInBounds_toArray, List.set_cons_zero, List.set_cons_succ])
  refine wpAnyH_take (i := 19) (oi := ({ dst := some 45, op := Op.binOp BinOp.eql 36 (Operand.tmp 33) (Operand.tmp 44) 36, type := 4, pos := "outright.go:81", after := #[{ on := 7, ground := Ground.data }, { on := 18, ground := Ground.data }, { on := 5, ground := Ground.guard }], guard := some (5, true) } : Oper)) (v := ?vfo19) rfl (by kernel_rfl) (by kernel_rfl) (by kernel_rfl) (fun _ _ _ h => h) (Or.inl ⟨by rfl, fun w hSw => ?hyfo19⟩) (by assumption) ?rfo19
  case hyfo19 => (try dsimp only at hSw); go_simp; (try with_reducible rfl)
  (try simp only [Act.put, List.setIfInBounds_toArray, List.set_cons_zero, List.set_cons_succ])
  refine wpAnyH_take (i := 20) (oi := ({ dst := some 46, op := Op.pick (Operand.tmp 31) (Operand.tmp 45) (Operand.const (Value.bool false)), type := 4, pos := "outright.go:81", after := #[{ on := 5, ground := Ground.data }, { on := 19, ground := Ground.data }], guard := none } : Oper)) (v := ?vfo20) rfl (by kernel_rfl) (by kernel_rfl) (by kernel_rfl) (fun _ _ _ h => h) (Or.inl ⟨by rfl, fun w hSw => ?hyfo20⟩) (by assumption) ?rfo20
  case hyfo20 => (try dsimp only at hSw); go_simp; (try with_reducible rfl)
  (try simp only [Act.put, List.setIfInBounds_toArray, List.set_cons_zero, List.set_cons_succ])
  refine wpAnyH_take (i := 21) (oi := ({ dst := some 4, op := Op.assign (Operand.tmp 46), type := 4, pos := "outright.go:81", after := #[{ on := 20, ground := Ground.data }, { on := 18, ground := Ground.chain }, { on := 0, ground := Ground.phase }, { on := 1, ground := Ground.phase }, { on := 2, ground := Ground.phase }, { on := 3, ground := Ground.phase }, { on := 4, ground := Ground.phase }, { on := 5, ground := Ground.phase }, { on := 6, ground := Ground.phase }, { on := 7, ground := Ground.phase }, { on := 8, ground := Ground.phase }, { on := 9, ground := Ground.phase }, { on := 10, ground := Ground.phase }, { on := 11, ground := Ground.phase }, { on := 12, ground := Ground.phase }, { on := 13, ground := Ground.phase }, { on := 14, ground := Ground.phase }, { on := 15, ground := Ground.phase }, { on := 16, ground := Ground.phase }, { on := 17, ground := Ground.phase }, { on := 18, ground := Ground.phase }, { on := 19, ground := Ground.phase }, { on := 20, ground := Ground.phase }], guard := none } : Oper)) (v := ?vfo21) rfl (by kernel_rfl) (by kernel_rfl) (by kernel_rfl) (fun _ _ _ h => h) (Or.inl ⟨by rfl, fun w hSw => ?hyfo21⟩) (by assumption) ?rfo21
  case hyfo21 => (try dsimp only at hSw); go_simp; (try with_reducible rfl)
  (try simp only [Act.put, List.setIfInBounds_toArray, List.set_cons_zero, List.set_cons_succ])
  refine wpAnyH_done (by kernel_rfl) ?_ _
  go_wp2_with fail
  go_ret
  exact ⟨rfl, HD.out.trans (hHeld.1.mono HD.out.size)⟩
set_option maxRecDepth 100000 in
set_option maxHeartbeats 4000000 in
theorem fits_enter (h : Runs w0 w base WB AB M R r C X) (hi : i < 4) (hr : R i = ⟨1, E, F⟩) (h0 : E.ln = 0) (ho : E.ow = false) :
    Calls Tryz.prog 12 #[Pq AB (5 * i), Pw WB] w fun e w' => e = .returned (.bool true) ∧ Below w.heap.size w w' := by
  obtain ⟨ra, ⟨kk, rb, rk⟩, rc⟩ := h.at_ i hi
  rw [hr] at rc
  have hkk : kk = E.kw := by have := rk (by rw [hr]) (by rw [hr]; exact ho); rwa [hr] at this
  subst hkk
  obtain ⟨Z, d3, d2, hW⟩ : ∃ Z : Wb, C (5 * i + 3) = nl ∧ C (5 * i + 2) = Pw Z.B ∧ WayIn r (1 + 2 * i) (2 + 2 * i) E Z := by
    rcases rc with ⟨c1, _⟩ | ⟨c1, c2, c3, c4, Z, c5, c6⟩ | ⟨c1, c2, _⟩ | ⟨c1, _⟩
    · cases c1
    · exact ⟨Z, c3, c5, c6⟩
    · exact absurd c2 (by rw [show (⟨1, E, F⟩ : Rn).E.ow = E.ow from rfl, ho]; decide)
    · cases c1
  have hok : EnOk E := by have := h.eok i hi (by rw [hr]); rwa [hr] at this
  have hkw : E.kw < 65536 := by have := (h.inv.ok i hi).ky (by rw [hr]); rwa [hr] at this
  have htb : S2.look M.L 0 = E.tw := by have := h.inv.tb i hi (by rw [hr]) (by rw [hr]; exact .inr h0); rwa [hr] at this
  have hew := hW.ew h.rw'.pg (by omega) (by rw [h.rw'.len]; omega)
  obtain ⟨p1, p2⟩ := hew.pl (.inr h0)
  rw [Nat.mod_eq_of_lt (show E.kw < 4294967296 by omega)] at p2
  have hgot := fun W (hb : Below w.heap.size w W) => egot_yes (hew.new hb).wy (at_end0 hok (hew.new hb) h0)
  rw [p1, p2] at hgot
  have htw : E.tw < 18446744073709551616 := hok.tw
  have hpl := fun W => place_any E.kw E.tw (by omega) htw W
  have hpk0 := fun W (hb : Below w.heap.size w W) => pg_peek (h.rw'.new hb).pg (a := 0) (by omega)
  rw [htb] at hpk0
  have hcl : ∀ W, Below w.heap.size w W → W.cell? ⟨AB, 5 * i + 1, none⟩ = some (.int .u32 (E.kw : Int)) ∧ W.cell? ⟨AB, 5 * i + 2, none⟩ = some (Pw Z.B) ∧ W.cell? ⟨AB, 5 * i + 3, none⟩ = some nl := fun W hb => ⟨(h.rw'.new hb).c (by omega) rb, (h.rw'.new hb).c (by omega) d2, (h.rw'.new hb).c (by omega) d3⟩
  obtain ⟨wr1, wr2⟩ := wrap_few hi
  have wk := wrap_key hkw
  have HGOT := Lib.hid hgot; have HPL := Lib.hid hpl; have HP0 := Lib.hid hpk0; have HCL := Lib.hid hcl
  have c00 := h.rw'.pg.c.1
  have HBP := Lib.hid (fun W => eqlP (bitsN E.tw : Int) (bktN E.kw E.tw : Int) W)
  clear h hi hr h0 ho ra rb rk rc d3 d2 hW hok hkw htb hew p1 p2 hgot hpl hpk0 hcl htw
  unfold placeV at HPL
  generalize (bitsN E.tw : Int) = pb at *
  generalize (bktN E.kw E.tw : Int) = pi at *
  generalize E.kw = key at *
  generalize E.tw = tw at *
  generalize Z.B = ZB at *
  go_enter Tryz.func12, Tryz.ntmps12
  obtain ⟨y1, y2, y3⟩ := HCL.out _ (Below.refl _ _)
  have hs : ∀ W, Below w.heap.size w W → Below w.heap.size w W ∧ W.cell? ⟨AB, 5 * i + 1, none⟩ = some (.int .u32 (key : Int)) ∧ W.cell? ⟨AB, 5 * i + 2, none⟩ = some (Pw ZB) := fun W hb => ⟨hb, (HCL.out W hb).1, (HCL.out W hb).2.1⟩
  have HS := Lib.hid hs
  have hbp := HBP.out
  clear hs
  go_upto_region 5 with (go_at_call 11; refine (HP0.out _ (Below.refl _ _)).mono ?_; rintro e w1 ⟨rfl, rfl⟩)
  clear y1 y2 y3 c00
  refine wp_region_held_drew (S := fun w' => Below w.heap.size w w' ∧ w'.cell? ⟨AB, 5 * i + 1, none⟩ = some (.int .u32 (key : Int)) ∧ w'.cell? ⟨AB, 5 * i + 2, none⟩ = some (Pw ZB)) (by kernel_rfl) ?_ (fun hHeld => ?_)
  · exact HS.out _ (Below.refl _ _).drew
  refine wpAnyH_take (i := 0) (oi := ({ dst := some 47, op := Op.move (Operand.tmp 0), type := 76, pos := "outright.go:83", after := #[], guard := none } : Oper)) (v := ?vfe0) rfl (by kernel_rfl) (by kernel_rfl) (by kernel_rfl) (fun _ _ _ h => h) (Or.inl ⟨by rfl, fun w hSw => ?hyfe0⟩) (by assumption) ?rfe0
  case hyfe0 => (try dsimp only at hSw); go_simp; (try with_reducible rfl)
  (try simp only [Act.put, List.setIfInBounds_toArray, List.set_cons_zero, List.set_cons_succ])
  refine wpAnyH_take (i := 1) (oi := ({ dst := some 48, op := Op.nilCheck (Operand.tmp 47), type := 0, pos := "outright.go:83", after := #[{ on := 0, ground := Ground.data }], guard := none } : Oper)) (v := ?vfe1) rfl (by kernel_rfl) (by kernel_rfl) (by kernel_rfl) (fun _ _ _ h => h) (Or.inl ⟨by rfl, fun w hSw => ?hyfe1⟩) (by assumption) ?rfe1
  case hyfe1 => (try dsimp only at hSw); go_simp; (try with_reducible rfl)
  (try simp only [Act.put, List.setIfInBounds_toArray, List.set_cons_zero, List.set_cons_succ])
  refine wpAnyH_take (i := 2) (oi := ({ dst := some 49, op := Op.fieldAddr 35 (Operand.tmp 48) 2, type := 0, pos := "outright.go:83", after := #[{ on := 1, ground := Ground.data }], guard := none } : Oper)) (v := ?vfe2) rfl (by kernel_rfl) (by kernel_rfl) (by kernel_rfl) (fun _ _ _ h => h) (Or.inl ⟨by rfl, fun w hSw => ?hyfe2⟩) (by assumption) ?rfe2
  case hyfe2 => (try dsimp only at hSw); go_simp; (try with_reducible rfl)
  (try simp only [Act.put, List.setIfInBounds_toArray, List.set_cons_zero, List.set_cons_succ])
  refine wpAnyH_take (i := 3) (oi := ({ dst := some 50, op := Op.load 31 (Operand.tmp 49), type := 31, pos := "outright.go:83", after := #[{ on := 2, ground := Ground.data }], guard := none } : Oper)) (v := ?vfe3) rfl (by kernel_rfl) (by kernel_rfl) (by kernel_rfl) (fun _ _ _ h => h) (Or.inl ⟨by rfl, fun w hSw => ?hyfe3⟩) (by assumption) ?rfe3
  case hyfe3 => (try dsimp only at hSw); go_simp; (try with_reducible rfl)
  (try simp only [Act.put, List.setIfInBounds_toArray, List.set_cons_zero, List.set_cons_succ])
  refine wpAnyH_take (i := 5) (oi := ({ dst := some 52, op := Op.move (Operand.tmp 0), type := 76, pos := "outright.go:83", after := #[], guard := none } : Oper)) (v := ?vfe5) rfl (by kernel_rfl) (by kernel_rfl) (by kernel_rfl) (fun _ _ _ h => h) (Or.inl ⟨by rfl, fun w hSw => ?hyfe5⟩) (by assumption) ?rfe5
  case hyfe5 => (try dsimp only at hSw); go_simp; (try with_reducible rfl)
  (try simp only [Act.put, List.setIfInBounds_toArray, List.set_cons_zero, List.set_cons_succ])
  refine wpAnyH_take (i := 6) (oi := ({ dst := some 53, op := Op.nilCheck (Operand.tmp 52), type := 0, pos := "outright.go:83", after := #[{ on := 5, ground := Ground.data }], guard := none } : Oper)) (v := ?vfe6) rfl (by kernel_rfl) (by kernel_rfl) (by kernel_rfl) (fun _ _ _ h => h) (Or.inl ⟨by rfl, fun w hSw => ?hyfe6⟩) (by assumption) ?rfe6
  case hyfe6 => (try dsimp only at hSw); go_simp; (try with_reducible rfl)
  (try simp only [Act.put, List.setIfInBounds_toArray, List.set_cons_zero, List.set_cons_succ])
  refine wpAnyH_take (i := 7) (oi := ({ dst := some 54, op := Op.fieldAddr 35 (Operand.tmp 53) 1, type := 0, pos := "outright.go:83", after := #[{ on := 6, ground := Ground.data }], guard := none } : Oper)) (v := ?vfe7) rfl (by kernel_rfl) (by kernel_rfl) (by kernel_rfl) (fun _ _ _ h => h) (Or.inl ⟨by rfl, fun w hSw => ?hyfe7⟩) (by assumption) ?rfe7
  case hyfe7 => (try dsimp only at hSw); go_simp; (try with_reducible rfl)
  (try simp only [Act.put, List.setIfInBounds_toArray, List.set_cons_zero, List.set_cons_succ])
  refine wpAnyH_take (i := 8) (oi := ({ dst := some 55, op := Op.load 30 (Operand.tmp 54), type := 30, pos := "outright.go:83", after := #[{ on := 7, ground := Ground.data }], guard := none } : Oper)) (v := ?vfe8) rfl (by kernel_rfl) (by kernel_rfl) (by kernel_rfl) (fun _ _ _ h => h) (Or.inl ⟨by rfl, fun w hSw => ?hyfe8⟩) (by assumption) ?rfe8
  case hyfe8 => (try dsimp only at hSw); go_simp; (try with_reducible rfl)
  (try simp only [Act.put, List.setIfInBounds_toArray, List.set_cons_zero, List.set_cons_succ])
  refine wpAnyH_take (i := 9) (oi := ({ dst := some 56, op := Op.move (Operand.tmp 5), type := 36, pos := "outright.go:83", after := #[], guard := none } : Oper)) (v := ?vfe9) rfl (by kernel_rfl) (by kernel_rfl) (by kernel_rfl) (fun _ _ _ h => h) (Or.inl ⟨by rfl, fun w hSw => ?hyfe9⟩) (by assumption) ?rfe9
  case hyfe9 => (try dsimp only at hSw); go_simp; (try with_reducible rfl)
  (try simp only [Act.put, List.setIfInBounds_toArray, List.set_cons_zero, List.set_cons_succ])
  refine wpAnyH_ready (rs := [4]) (by kernel_rfl) (by simp) ?_
  refine AllReadyH.cons (o := ({ dst := some 51, op := Op.call { callee := Callee.value (Operand.func 16), args := #[Operand.tmp 50], argTypes := #[31] }, type := 64, pos := "outright.go:83", after := #[{ on := 3, ground := Ground.data }], guard := none } : Oper)) rfl (fun Kq hKq => ?_) AllReadyH.nil
  go_simp
  (refine (HGOT.out _ hHeld.1).mono ?_; rintro e w5 ⟨rfl, hb5⟩)
  refine hKq.out _ _ ?_ (fun hHeld => ?_)
  · exact HS.out _ (hHeld.1.trans (hb5.mono hHeld.1.size))
  clear hKq Kq
  (try simp only [Act.put, List.setIfInBounds_toArray, List.set_cons_zero, List.set_cons_succ])
  refine wpAnyH_ready (rs := [10]) (by kernel_rfl) (by simp) ?_
  refine AllReadyH.cons (o := ({ dst := some 57, op := Op.call { callee := Callee.value (Operand.func 31), args := #[Operand.tmp 55, Operand.tmp 56], argTypes := #[30, 36] }, type := 64, pos := "outright.go:83", after := #[{ on := 8, ground := Ground.data }, { on := 9, ground := Ground.data }, { on := 4, ground := Ground.chain }], guard := none } : Oper)) rfl (fun Kq hKq => ?_) AllReadyH.nil
  go_simp
  (refine (HPL.out _).mono ?_; rintro e w5 ⟨rfl, hb5⟩)
  refine hKq.out _ _ ?_ (fun hHeld => ?_)
  · exact HS.out _ (hHeld.1.trans (hb5.mono hHeld.1.size))
  clear hKq Kq
  (try simp only [Act.put, List.setIfInBounds_toArray, List.set_cons_zero, List.set_cons_succ])
  refine wpAnyH_take (i := 11) (oi := ({ dst := some 58, op := Op.binOp BinOp.eql 64 (Operand.tmp 51) (Operand.tmp 57) 64, type := 4, pos := "outright.go:83", after := #[{ on := 4, ground := Ground.data }, { on := 10, ground := Ground.data }], guard := none } : Oper)) (v := ?vfe11) rfl (by kernel_rfl) (by kernel_rfl) (by kernel_rfl) (fun _ _ _ h => h) (Or.inl ⟨by rfl, fun w hSw => ?hyfe11⟩) (by assumption) ?rfe11
  case hyfe11 => (try dsimp only at hSw); go_simp; (try with_reducible rfl)
  (try simp only [Act.put, List.setIfInBounds_toArray, List.set_cons_zero, List.set_cons_succ])
  refine wpAnyH_take (i := 12) (oi := ({ dst := some 4, op := Op.assign (Operand.tmp 58), type := 4, pos := "outright.go:83", after := #[{ on := 11, ground := Ground.data }, { on := 10, ground := Ground.chain }, { on := 0, ground := Ground.phase }, { on := 1, ground := Ground.phase }, { on := 2, ground := Ground.phase }, { on := 3, ground := Ground.phase }, { on := 4, ground := Ground.phase }, { on := 5, ground := Ground.phase }, { on := 6, ground := Ground.phase }, { on := 7, ground := Ground.phase }, { on := 8, ground := Ground.phase }, { on := 9, ground := Ground.phase }, { on := 10, ground := Ground.phase }, { on := 11, ground := Ground.phase }], guard := none } : Oper)) (v := ?vfe12) rfl (by kernel_rfl) (by kernel_rfl) (by kernel_rfl) (fun _ _ _ h => h) (Or.inl ⟨by rfl, fun w hSw => ?hyfe12⟩) (by assumption) ?rfe12
  case hyfe12 => (try dsimp only at hSw); go_simp; (try with_reducible rfl)
  (try simp only [Act.put, List.setIfInBounds_toArray, List.set_cons_zero, List.set_cons_succ])
  refine wpAnyH_done (by kernel_rfl) ?_ _
  go_wp2_with fail
  go_ret
  exact ⟨rfl, hHeld.1⟩
/-- What it entered stands where its key hashes to. -/
theorem fits_any (h : Runs w0 w base WB AB M R r C X) (hi : i < 4) (hin : (R i).inn = true) : Calls Tryz.prog 12 #[Pq AB (5 * i), Pw WB] w fun e w' => e = .returned (.bool true) ∧ Below w.heap.size w w' := by
  obtain ⟨k1, k2⟩ := of_decide_eq_true hin
  obtain ⟨k, E, F, hr⟩ : ∃ k E F, R i = ⟨k, E, F⟩ := ⟨_, _, _, rfl⟩
  rw [hr] at k1 k2
  have k1' : k = 1 := k1
  subst k1'
  cases ho : E.ow
  · exact fits_enter h hi hr k2 ho
  · exact fits_own h hi hr k2 ho
end
end Go.Proofs.YthafnphpcdbnlaaGreat.S15
