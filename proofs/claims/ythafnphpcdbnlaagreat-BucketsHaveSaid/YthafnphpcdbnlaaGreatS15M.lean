/- The chapter's example. -/
import Derived.Test.YthafnphpcdbnlaaGreatS15L
set_option linter.unusedVariables false
set_option linter.unusedSimpArgs false
namespace Go.Proofs.YthafnphpcdbnlaaGreat.S15
open Go.Proofs.YthafnphpcdbnlaaGreat Go.Proofs.YthafnphpcdbnlaaGreat.S11 Go.Proofs.YthafnphpcdbnlaaGreat.S12 Go.Proofs.YthafnphpcdbnlaaGreat.S13 Go.Proofs.YthafnphpcdbnlaaGreat.S14
open Go.RowKit

theorem look02 (b : Nat) : S2.look L02 b = if b = 0 then 2 else 0 := by
  have e : L02 = [(0, 2)] := by decide
  rw [e]
  by_cases h : b = 0
  · subst h; rfl
  · rw [if_neg h]
    unfold S2.look
    have : ((0 : Nat) == b) = false := by simp; omega
    simp [List.find?, this]
theorem set_at {r : List Part} {p q : Part} {i : Nat} {k : Nat} (h : r[k]? = some p) (hk : k ≠ i) : (r.set i q)[k]? = some p := (List.getElem?_set_ne (fun e => hk e.symm)).trans h
section
variable {w0 w w' : World} {base WB : Nat} {M : Sd} {r : List Part} {X : Wm}
theorem pg_last {Q : Nat} {ob : Obj} (h : Pg w0 w base WB M (r ++ [blockP Q ob]) X) : w.heap[Q]? = some ob :=
  h.ps.ok _ (blockP Q ob) (h.part (j := r.length) (by rw [List.getElem?_append_right (Nat.le_refl _), Nat.sub_self]; rfl))
theorem pg_peek (h : Pg w0 w base WB M r X) {a : Nat} (ha : a < 4294967296) : Calls Tryz.prog 11 #[Pw X.cB, .int .u32 a] w fun e w' => e = .returned (.int .u64 (S2.look M.L a : Nat)) ∧ w = w' := by
  have := S2.peek_any w X.cB X.cM X.L X.n X.k X.a X.was X.is a h.pw.cells ha
  rwa [show X.L = M.L from congrArg Sd.L h.xm] at this
end
set_option maxRecDepth 100000 in
set_option maxHeartbeats 8000000 in
theorem lives15 (w : World) : Calls Tryz.prog 5 #[] w fun e w' => e = .returned (.bool true) ∧ Below w.heap.size w w' := by
  have HW : Hid (Calls Tryz.prog 4 #[.int .u8 0] w fun e w' => ∃ X, e = .returned (Pw X.wB) ∧ PW w' w.heap.size X ∧ At0 X 0 5 [] ∧ Below w.heap.size w w') := Lib.hid (world_any 0 (by omega) w)
  have HNE : Hid (∀ W, Calls Tryz.prog 14 #[.int .i64 3, .int .u32 1152] W fun e w' => ∃ v, e = .returned v ∧ NewE W w' false 3 1152 v) := Lib.hid (fun W => new_enter 3 1152 (by omega) (by omega) W)
  obtain ⟨bkt, hbk⟩ : ∃ bkt, bkt = bktN 1152 2 := ⟨_, rfl⟩
  obtain ⟨a, hal⟩ : ∃ a, a = lokN 1152 2 := ⟨_, rfl⟩
  have hain := lok_in 1152 2
  rw [← hal] at hain
  have HHS : Hid (∀ W, Calls Tryz.prog 17 #[.int .u32 1152, .int .i64 2] W fun e w' => e = .returned (.int .i64 (bkt : Int)) ∧ W = w') := Lib.hid (fun W => by
    have h := S10.hash_any 1152 ((bitsN 2 : Nat) : Int) (by omega) W
    rw [bkt_hash, ← hbk] at h
    exact h)
  have HLK : Hid (∀ W, Calls Tryz.prog 18 #[.agg #[.int .i64 2, .int .i64 (bkt : Int)]] W fun e w' => e = .returned (.int .u32 (a : Int)) ∧ Below W.heap.size W w') := Lib.hid (fun W => by
    have h := lockOf_any ((bitsN 2 : Nat) : Int) ((bktN 1152 2 : Nat) : Int) W
    rw [lok_lock, ← hbk, ← hal] at h
    exact h)
  have HBK := Lib.hid hbk; have HAL := Lib.hid hal; have HAI := Lib.hid hain
  clear hbk hal hain
  go_enter Tryz.func5, Tryz.ntmps5
  go_upto_region 4 with (go_at_call 4; refine HW.out.mono ?_; rintro e w1 ⟨X, rfl, hp, h0, hb⟩)
  have hpg := pg_of hp hb
  rw [at0_sd h0] at hpg
  obtain ⟨WB, hWB⟩ : ∃ x, x = X.wB := ⟨_, rfl⟩
  rw [← hWB] at hpg ⊢
  have HPG := Lib.hid hpg
  clear hpg hp h0 hb hWB HW
  go_upto_region 5 with (go_at_call 14; refine (HNE.out _).mono ?_; rintro e w2 ⟨v, rfl, hne⟩)
  obtain ⟨Z, rfl, hi, hs, hwy⟩ := Pg.enter HPG.out hne
  have HR := Lib.hid (enter_alone (x := 2) (a := a) hwy hi hs (by omega) (by omega) ⟨by show (0 : Int) ≤ 0; omega, by show (0 : Int) ≤ 16; omega⟩ (by show 0 ≤ _; omega) (by show 0 ≤ _; omega) (look02 0) HAL.out (by
    show S2.look L02 a = 0
    rw [look02, if_neg (by have := HAI.out; omega)]))
  clear hne hi hs hwy HPG HNE
  go_upto_region 6 with (go_at_call 15; refine HR.out.mono ?_; rintro e w3 ⟨rfl, M', E, q, Z', X', hzb, htk, e0, ek, et, eo, hew⟩)
  have hat : (nPart E.ow : Int) ≤ Z'.i := by rw [hew.i, at_zero e0]; exact Int.le_refl _
  have hpl := hew.pl (.inr e0)
  have hg := egot_yes hew.wy hat
  rw [hzb, hpl.1, hpl.2, ek, et, show ((bitsN 2 : Nat) : Int) = 2 from rfl, show 1152 % 4294967296 = 1152 from rfl, ← HBK.out] at hg
  have HG := Lib.hid hg; have HEW := Lib.hid hew; have HTK := Lib.hid htk
  clear hat hpl hg hew htk HR e0 ek et eo
  go_upto_region 7 with (go_at_call 16; refine HG.out.mono ?_; rintro e w4 ⟨rfl, hb4⟩; have HB4 := Lib.hid hb4; clear hb4)
  obtain ⟨r5, h5⟩ : ∃ r5, Pg w (w4.alloc (.cells #[.int .i64 2, .int .i64 (bkt : Int)] 64)) w.heap.size WB M' (r5 ++ [blockP w4.heap.size (.cells #[.int .i64 2, .int .i64 (bkt : Int)] 64)]) X' := ⟨_, Pg.add (HEW.out.new HB4.out).alone _⟩
  obtain ⟨N4, hN4⟩ : ∃ N4, N4 = w4.heap.size := ⟨_, rfl⟩
  rw [← hN4] at h5 ⊢
  obtain ⟨cb, hcb⟩ : ∃ cb, X'.cB = cb := ⟨_, rfl⟩
  have H5 := Lib.hid h5; have HCB := Lib.hid hcb
  have hpk : ∀ W, Pg w W w.heap.size WB M' (r5 ++ [blockP N4 (.cells #[.int .i64 2, .int .i64 (bkt : Int)] 64)]) X' → Calls Tryz.prog 11 #[Pw cb, .int .u32 (a : Int)] W fun e w' => e = .returned (.int .u64 1) ∧ W = w' := fun W hW => by
    have := pg_peek hW (a := a) (by have := HAI.out; omega)
    rw [hcb, HTK.out.at_a] at this
    exact this
  have HPK := Lib.hid hpk
  clear h5 hcb hN4 HG HEW HB4 hpk
  generalize w4.alloc (.cells #[.int .i64 2, .int .i64 (bkt : Int)] 64) = w5 at *
  refine wp_region_held_drew (S := fun w' => w'.cell? ⟨N4, 0, none⟩ = some (.int .i64 2) ∧ w'.cell? ⟨N4, 1, none⟩ = some (.int .i64 (bkt : Int)) ∧ w'.cell? ⟨WB, 0, none⟩ = some (Pw cb)) (by kernel_rfl) ?_ (fun hHeld => ?_)
  · exact ⟨cell_row (pg_last (H5.out.new (Below.refl _ _).drew)) 0, cell_row (pg_last (H5.out.new (Below.refl _ _).drew)) 1, by rw [← HCB.out]; exact (H5.out.new (Below.refl _ _).drew).c.1⟩
  refine wpAnyH_take (i := 0) (oi := ({ dst := some 15, op := Op.move (Operand.tmp 3), type := 3, pos := "outright.go:23", after := #[], guard := none } : Oper)) (v := ?vlm1) rfl (by kernel_rfl) (by kernel_rfl) (by kernel_rfl) (fun _ _ _ h => h) (Or.inl ⟨by rfl, fun w hSw => ?hylm1⟩) (by assumption) ?rlm1
  case hylm1 => (try dsimp only at hSw); go_simp; (try with_reducible rfl)
  (try simp only [Act.put, List.setIfInBounds_toArray, List.set_cons_zero, List.set_cons_succ])
  refine wpAnyH_take (i := 1) (oi := ({ dst := some 16, op := Op.binOp BinOp.eql 3 (Operand.tmp 15) (Operand.const (Value.int IntKind.i64 3)) 3, type := 4, pos := "outright.go:23", after := #[{ on := 0, ground := Ground.data }], guard := none } : Oper)) (v := ?vlm2) rfl (by kernel_rfl) (by kernel_rfl) (by kernel_rfl) (fun _ _ _ h => h) (Or.inl ⟨by rfl, fun w hSw => ?hylm2⟩) (by assumption) ?rlm2
  case hylm2 => (try dsimp only at hSw); go_simp; (try with_reducible rfl)
  (try simp only [Act.put, List.setIfInBounds_toArray, List.set_cons_zero, List.set_cons_succ])
  refine wpAnyH_take (i := 2) (oi := ({ dst := some 17, op := Op.move (Operand.tmp 16), type := 4, pos := "outright.go:23", after := #[{ on := 1, ground := Ground.data }], guard := none } : Oper)) (v := ?vlm3) rfl (by kernel_rfl) (by kernel_rfl) (by kernel_rfl) (fun _ _ _ h => h) (Or.inl ⟨by rfl, fun w hSw => ?hylm3⟩) (by assumption) ?rlm3
  case hylm3 => (try dsimp only at hSw); go_simp; (try with_reducible rfl)
  (try simp only [Act.put, List.setIfInBounds_toArray, List.set_cons_zero, List.set_cons_succ])
  refine wpAnyH_take (i := 3) (oi := ({ dst := some 18, op := Op.fieldAddr 64 (Operand.tmp 4) 0, type := 0, pos := "outright.go:23", after := #[{ on := 2, ground := Ground.guard }], guard := some (2, true) } : Oper)) (v := ?vlm4) rfl (by kernel_rfl) (by kernel_rfl) (by kernel_rfl) (fun _ _ _ h => h) (Or.inl ⟨by rfl, fun w hSw => ?hylm4⟩) (by assumption) ?rlm4
  case hylm4 => (try dsimp only at hSw); go_simp; (try with_reducible rfl)
  (try simp only [Act.put, List.setIfInBounds_toArray, List.set_cons_zero, List.set_cons_succ])
  refine wpAnyH_take (i := 4) (oi := ({ dst := some 19, op := Op.load 3 (Operand.tmp 18), type := 3, pos := "outright.go:23", after := #[{ on := 3, ground := Ground.data }, { on := 2, ground := Ground.guard }], guard := some (2, true) } : Oper)) (v := ?vlm5) rfl (by kernel_rfl) (by kernel_rfl) (by kernel_rfl) (fun _ _ _ h => h) (Or.inl ⟨by rfl, fun w hSw => ?hylm5⟩) (by assumption) ?rlm5
  case hylm5 => (try dsimp only at hSw); go_simp; (try with_reducible rfl)
  (try simp only [Act.put, List.setIfInBounds_toArray, List.set_cons_zero, List.set_cons_succ])
  refine wpAnyH_take (i := 5) (oi := ({ dst := some 20, op := Op.binOp BinOp.eql 3 (Operand.tmp 19) (Operand.const (Value.int IntKind.i64 2)) 3, type := 4, pos := "outright.go:23", after := #[{ on := 4, ground := Ground.data }, { on := 2, ground := Ground.guard }], guard := some (2, true) } : Oper)) (v := ?vlm6) rfl (by kernel_rfl) (by kernel_rfl) (by kernel_rfl) (fun _ _ _ h => h) (Or.inl ⟨by rfl, fun w hSw => ?hylm6⟩) (by assumption) ?rlm6
  case hylm6 => (try dsimp only at hSw); go_simp; (try with_reducible rfl)
  (try simp only [Act.put, List.setIfInBounds_toArray, List.set_cons_zero, List.set_cons_succ])
  refine wpAnyH_take (i := 6) (oi := ({ dst := some 21, op := Op.pick (Operand.tmp 17) (Operand.tmp 20) (Operand.const (Value.bool false)), type := 4, pos := "outright.go:23", after := #[{ on := 2, ground := Ground.data }, { on := 5, ground := Ground.data }], guard := none } : Oper)) (v := ?vlm7) rfl (by kernel_rfl) (by kernel_rfl) (by kernel_rfl) (fun _ _ _ h => h) (Or.inl ⟨by rfl, fun w hSw => ?hylm7⟩) (by assumption) ?rlm7
  case hylm7 => (try dsimp only at hSw); go_simp; (try with_reducible rfl)
  (try simp only [Act.put, List.setIfInBounds_toArray, List.set_cons_zero, List.set_cons_succ])
  refine wpAnyH_take (i := 7) (oi := ({ dst := some 22, op := Op.move (Operand.tmp 21), type := 4, pos := "outright.go:23", after := #[{ on := 6, ground := Ground.data }, { on := 2, ground := Ground.chain }], guard := none } : Oper)) (v := ?vlm8) rfl (by kernel_rfl) (by kernel_rfl) (by kernel_rfl) (fun _ _ _ h => h) (Or.inl ⟨by rfl, fun w hSw => ?hylm8⟩) (by assumption) ?rlm8
  case hylm8 => (try dsimp only at hSw); go_simp; (try with_reducible rfl)
  (try simp only [Act.put, List.setIfInBounds_toArray, List.set_cons_zero, List.set_cons_succ])
  refine wpAnyH_take (i := 8) (oi := ({ dst := some 23, op := Op.fieldAddr 64 (Operand.tmp 4) 1, type := 0, pos := "outright.go:23", after := #[{ on := 7, ground := Ground.guard }], guard := some (7, true) } : Oper)) (v := ?vlm9) rfl (by kernel_rfl) (by kernel_rfl) (by kernel_rfl) (fun _ _ _ h => h) (Or.inl ⟨by rfl, fun w hSw => ?hylm9⟩) (by assumption) ?rlm9
  case hylm9 => (try dsimp only at hSw); go_simp; (try with_reducible rfl)
  (try simp only [Act.put, List.setIfInBounds_toArray, List.set_cons_zero, List.set_cons_succ])
  refine wpAnyH_take (i := 9) (oi := ({ dst := some 24, op := Op.load 3 (Operand.tmp 23), type := 3, pos := "outright.go:23", after := #[{ on := 8, ground := Ground.data }, { on := 7, ground := Ground.guard }], guard := some (7, true) } : Oper)) (v := ?vlm10) rfl (by kernel_rfl) (by kernel_rfl) (by kernel_rfl) (fun _ _ _ h => h) (Or.inl ⟨by rfl, fun w hSw => ?hylm10⟩) (by assumption) ?rlm10
  case hylm10 => (try dsimp only at hSw); go_simp; (try with_reducible rfl)
  (try simp only [Act.put, List.setIfInBounds_toArray, List.set_cons_zero, List.set_cons_succ])
  refine wpAnyH_ready (rs := [10]) (by kernel_rfl) (by simp) ?_
  refine AllReadyH.cons (o := ({ dst := some 25, op := Op.call { callee := Callee.value (Operand.func 17), args := #[Operand.const (Value.int IntKind.u32 1152), Operand.const (Value.int IntKind.i64 2)], argTypes := #[30, 3] }, type := 3, pos := "outright.go:23", after := #[{ on := 7, ground := Ground.chain }, { on := 7, ground := Ground.guard }], guard := some (7, true) } : Oper)) rfl (fun Kq hKq => ?_) AllReadyH.nil
  go_simp
  (refine (HHS.out _).mono ?_; rintro e w6 ⟨rfl, rfl⟩)
  refine hKq.out _ _ ?_ (fun hHeld => ?_)
  · exact hHeld
  clear hKq Kq
  (try simp only [Act.put, List.setIfInBounds_toArray, List.set_cons_zero, List.set_cons_succ])
  refine wpAnyH_take (i := 11) (oi := ({ dst := some 26, op := Op.binOp BinOp.eql 3 (Operand.tmp 24) (Operand.tmp 25) 3, type := 4, pos := "outright.go:23", after := #[{ on := 9, ground := Ground.data }, { on := 10, ground := Ground.data }, { on := 7, ground := Ground.guard }], guard := some (7, true) } : Oper)) (v := ?vlm11) rfl (by kernel_rfl) (by kernel_rfl) (by kernel_rfl) (fun _ _ _ h => h) (Or.inl ⟨by rfl, fun w hSw => ?hylm11⟩) (by assumption) ?rlm11
  case hylm11 => (try dsimp only at hSw); go_simp; (try with_reducible rfl)
  (try simp only [Act.put, List.setIfInBounds_toArray, List.set_cons_zero, List.set_cons_succ])
  refine wpAnyH_take (i := 12) (oi := ({ dst := some 27, op := Op.pick (Operand.tmp 22) (Operand.tmp 26) (Operand.const (Value.bool false)), type := 4, pos := "outright.go:23", after := #[{ on := 7, ground := Ground.data }, { on := 11, ground := Ground.data }], guard := none } : Oper)) (v := ?vlm12) rfl (by kernel_rfl) (by kernel_rfl) (by kernel_rfl) (fun _ _ _ h => h) (Or.inl ⟨by rfl, fun w hSw => ?hylm12⟩) (by assumption) ?rlm12
  case hylm12 => (try dsimp only at hSw); go_simp; (try with_reducible rfl)
  (try simp only [Act.put, List.setIfInBounds_toArray, List.set_cons_zero, List.set_cons_succ])
  refine wpAnyH_take (i := 13) (oi := ({ dst := some 28, op := Op.move (Operand.tmp 27), type := 4, pos := "outright.go:23", after := #[{ on := 12, ground := Ground.data }, { on := 10, ground := Ground.chain }], guard := none } : Oper)) (v := ?vlm13) rfl (by kernel_rfl) (by kernel_rfl) (by kernel_rfl) (fun _ _ _ h => h) (Or.inl ⟨by rfl, fun w hSw => ?hylm13⟩) (by assumption) ?rlm13
  case hylm13 => (try dsimp only at hSw); go_simp; (try with_reducible rfl)
  (try simp only [Act.put, List.setIfInBounds_toArray, List.set_cons_zero, List.set_cons_succ])
  refine wpAnyH_take (i := 14) (oi := ({ dst := some 29, op := Op.move (Operand.tmp 1), type := 25, pos := "outright.go:23", after := #[{ on := 13, ground := Ground.guard }], guard := some (13, true) } : Oper)) (v := ?vlm14) rfl (by kernel_rfl) (by kernel_rfl) (by kernel_rfl) (fun _ _ _ h => h) (Or.inl ⟨by rfl, fun w hSw => ?hylm14⟩) (by assumption) ?rlm14
  case hylm14 => (try dsimp only at hSw); go_simp; (try with_reducible rfl)
  (try simp only [Act.put, List.setIfInBounds_toArray, List.set_cons_zero, List.set_cons_succ])
  refine wpAnyH_take (i := 15) (oi := ({ dst := some 30, op := Op.nilCheck (Operand.tmp 29), type := 0, pos := "outright.go:23", after := #[{ on := 14, ground := Ground.data }, { on := 13, ground := Ground.guard }], guard := some (13, true) } : Oper)) (v := ?vlm15) rfl (by kernel_rfl) (by kernel_rfl) (by kernel_rfl) (fun _ _ _ h => h) (Or.inl ⟨by rfl, fun w hSw => ?hylm15⟩) (by assumption) ?rlm15
  case hylm15 => (try dsimp only at hSw); go_simp; (try with_reducible rfl)
  (try simp only [Act.put, List.setIfInBounds_toArray, List.set_cons_zero, List.set_cons_succ])
  refine wpAnyH_take (i := 16) (oi := ({ dst := some 31, op := Op.fieldAddr 45 (Operand.tmp 30) 0, type := 0, pos := "outright.go:23", after := #[{ on := 15, ground := Ground.data }, { on := 13, ground := Ground.guard }], guard := some (13, true) } : Oper)) (v := ?vlm16) rfl (by kernel_rfl) (by kernel_rfl) (by kernel_rfl) (fun _ _ _ h => h) (Or.inl ⟨by rfl, fun w hSw => ?hylm16⟩) (by assumption) ?rlm16
  case hylm16 => (try dsimp only at hSw); go_simp; (try with_reducible rfl)
  (try simp only [Act.put, List.setIfInBounds_toArray, List.set_cons_zero, List.set_cons_succ])
  refine wpAnyH_take (i := 17) (oi := ({ dst := some 32, op := Op.load 37 (Operand.tmp 31), type := 37, pos := "outright.go:23", after := #[{ on := 16, ground := Ground.data }, { on := 13, ground := Ground.guard }], guard := some (13, true) } : Oper)) (v := ?vlm17) rfl (by kernel_rfl) (by kernel_rfl) (by kernel_rfl) (fun _ _ _ h => h) (Or.inl ⟨by rfl, fun w hSw => ?hylm17⟩) (by assumption) ?rlm17
  case hylm17 => (try dsimp only at hSw); go_simp; (try with_reducible rfl)
  (try simp only [Act.put, List.setIfInBounds_toArray, List.set_cons_zero, List.set_cons_succ])
  refine wpAnyH_take (i := 18) (oi := ({ dst := some 33, op := Op.load 64 (Operand.tmp 4), type := 64, pos := "outright.go:23", after := #[{ on := 13, ground := Ground.guard }], guard := some (13, true) } : Oper)) (v := ?vlm18) rfl (by kernel_rfl) (by kernel_rfl) (by kernel_rfl) (fun _ _ _ h => h) (Or.inl ⟨by rfl, fun w hSw => ?hylm18⟩) (by assumption) ?rlm18
  case hylm18 => (try dsimp only at hSw); go_simp; (try with_reducible rfl)
  (try simp only [Act.put, List.setIfInBounds_toArray, List.set_cons_zero, List.set_cons_succ])
  refine wpAnyH_ready (rs := [19]) (by kernel_rfl) (by simp) ?_
  refine AllReadyH.cons (o := ({ dst := some 34, op := Op.call { callee := Callee.value (Operand.func 18), args := #[Operand.tmp 33], argTypes := #[64] }, type := 30, pos := "outright.go:23", after := #[{ on := 18, ground := Ground.data }, { on := 13, ground := Ground.chain }, { on := 13, ground := Ground.guard }], guard := some (13, true) } : Oper)) rfl (fun Kq hKq => ?_) AllReadyH.nil
  go_simp
  (refine (HLK.out _).mono ?_; rintro e w7 ⟨rfl, hb7⟩; have H7 := Lib.hid (H5.out.new ((Below.refl _ _).drew.trans hb7)); clear hb7)
  refine hKq.out _ _ ?_ (fun hHeld => ?_)
  · exact ⟨cell_row (pg_last H7.out) 0, cell_row (pg_last H7.out) 1, by rw [← HCB.out]; exact H7.out.c.1⟩
  clear hKq Kq
  (try simp only [Act.put, List.setIfInBounds_toArray, List.set_cons_zero, List.set_cons_succ])
  refine wpAnyH_ready (rs := [20]) (by kernel_rfl) (by simp) ?_
  refine AllReadyH.cons (o := ({ dst := some 35, op := Op.call { callee := Callee.value (Operand.func 11), args := #[Operand.tmp 32, Operand.tmp 34], argTypes := #[37, 30] }, type := 36, pos := "outright.go:23", after := #[{ on := 17, ground := Ground.data }, { on := 19, ground := Ground.data }, { on := 19, ground := Ground.chain }, { on := 13, ground := Ground.guard }], guard := some (13, true) } : Oper)) rfl (fun Kq hKq => ?_) AllReadyH.nil
  go_simp
  (refine (HPK.out w7 H7.out).mono ?_; rintro e w8 ⟨rfl, rfl⟩)
  refine hKq.out _ _ ?_ (fun hHeld => ?_)
  · exact hHeld
  clear hKq Kq
  (try simp only [Act.put, List.setIfInBounds_toArray, List.set_cons_zero, List.set_cons_succ])
  refine wpAnyH_take (i := 21) (oi := ({ dst := some 36, op := Op.binOp BinOp.eql 36 (Operand.tmp 35) (Operand.const (Value.int IntKind.u64 1)) 36, type := 4, pos := "outright.go:23", after := #[{ on := 20, ground := Ground.data }, { on := 13, ground := Ground.guard }], guard := some (13, true) } : Oper)) (v := ?vlm19) rfl (by kernel_rfl) (by kernel_rfl) (by kernel_rfl) (fun _ _ _ h => h) (Or.inl ⟨by rfl, fun w hSw => ?hylm19⟩) (by assumption) ?rlm19
  case hylm19 => (try dsimp only at hSw); go_simp; (try with_reducible rfl)
  (try simp only [Act.put, List.setIfInBounds_toArray, List.set_cons_zero, List.set_cons_succ])
  refine wpAnyH_take (i := 22) (oi := ({ dst := some 37, op := Op.pick (Operand.tmp 28) (Operand.tmp 36) (Operand.const (Value.bool false)), type := 4, pos := "outright.go:23", after := #[{ on := 13, ground := Ground.data }, { on := 21, ground := Ground.data }], guard := none } : Oper)) (v := ?vlm20) rfl (by kernel_rfl) (by kernel_rfl) (by kernel_rfl) (fun _ _ _ h => h) (Or.inl ⟨by rfl, fun w hSw => ?hylm20⟩) (by assumption) ?rlm20
  case hylm20 => (try dsimp only at hSw); go_simp; (try with_reducible rfl)
  (try simp only [Act.put, List.setIfInBounds_toArray, List.set_cons_zero, List.set_cons_succ])
  refine wpAnyH_take (i := 23) (oi := ({ dst := some 0, op := Op.assign (Operand.tmp 37), type := 4, pos := "outright.go:23", after := #[{ on := 22, ground := Ground.data }, { on := 20, ground := Ground.chain }, { on := 0, ground := Ground.phase }, { on := 1, ground := Ground.phase }, { on := 2, ground := Ground.phase }, { on := 3, ground := Ground.phase }, { on := 4, ground := Ground.phase }, { on := 5, ground := Ground.phase }, { on := 6, ground := Ground.phase }, { on := 7, ground := Ground.phase }, { on := 8, ground := Ground.phase }, { on := 9, ground := Ground.phase }, { on := 10, ground := Ground.phase }, { on := 11, ground := Ground.phase }, { on := 12, ground := Ground.phase }, { on := 13, ground := Ground.phase }, { on := 14, ground := Ground.phase }, { on := 15, ground := Ground.phase }, { on := 16, ground := Ground.phase }, { on := 17, ground := Ground.phase }, { on := 18, ground := Ground.phase }, { on := 19, ground := Ground.phase }, { on := 20, ground := Ground.phase }, { on := 21, ground := Ground.phase }, { on := 22, ground := Ground.phase }], guard := none } : Oper)) (v := ?vlm21) rfl (by kernel_rfl) (by kernel_rfl) (by kernel_rfl) (fun _ _ _ h => h) (Or.inl ⟨by rfl, fun w hSw => ?hylm21⟩) (by assumption) ?rlm21
  case hylm21 => (try dsimp only at hSw); go_simp; (try with_reducible rfl)
  (try simp only [Act.put, List.setIfInBounds_toArray, List.set_cons_zero, List.set_cons_succ])
  refine wpAnyH_done (by kernel_rfl) ?_ _
  go_wp2_with fail
  go_ret
  exact ⟨rfl, H7.out.bl⟩
end Go.Proofs.YthafnphpcdbnlaaGreat.S15
