/- Texts of this seat, one behind the other. -/
import Derived.Test.YthafnphpcdbnlaaGreatDoorMLawNew14
import Derived.Deep.RegionHeld3
import Derived.Deep.DeepCutAuto
set_option linter.unusedVariables false
set_option linter.unusedSimpArgs false
set_option linter.unusedVariables false
set_option linter.unusedSimpArgs false
namespace Go.Proofs.YthafnphpcdbnlaaGreatDoor.S2
open Go.Proofs.YthafnphpcdbnlaaGreatDoor
open Go.RowKit Go.Maps

theorem keep2 {S : Nat → Prop} {xb A V : Nat} {w w' : World} (h : w.cell? ⟨xb, 1, none⟩ = some (.int .u32 A) ∧ w.cell? ⟨xb, 2, none⟩ = some (.int .u64 V)) (t : Turns S w w') (hn : ¬ S xb) : w'.cell? ⟨xb, 1, none⟩ = some (.int .u32 A) ∧ w'.cell? ⟨xb, 2, none⟩ = some (.int .u64 V) := by
  have hx : xb < w.heap.size := World.block_lt_of_cell? w _ h.1
  have e := t.block xb hx hn
  exact ⟨(World.cell?_of_block (w := w) e).trans h.1, (World.cell?_of_block (w := w) e).trans h.2⟩
theorem cell_turns {S : Nat → Prop} {xb o : Nat} {v : Value} {w w' : World} (h : w.cell? ⟨xb, o, none⟩ = some v) (t : Turns S w w') (hn : ¬ S xb) : w'.cell? ⟨xb, o, none⟩ = some v :=
  (World.cell?_of_block (w := w) (t.block xb (World.block_lt_of_cell? w _ h) hn)).trans h
/-- What 'do' leaves. -/
def DoLeft (w w' : World) (base B R : Nat) (n : Nat) : Prop := ∃ L k a was is, Both w' base B R L n k a was is ∧ Below base w w'
theorem turns_drew (S : Nat → Prop) (w : World) : Turns S w w.drew := Turns.of_below ((Below.refl _ _).drew)
theorem left_turns {w w' : World} {B : Nat} {M : Option Nat} {L : LL} {n k a was is : Nat} (l : Left w w' B M L n k a was is) : Turns (Fp B M) w w' := let ⟨_, _, _, t⟩ := l; t
end Go.Proofs.YthafnphpcdbnlaaGreatDoor.S2
set_option linter.unusedVariables false
set_option linter.unusedSimpArgs false
namespace Go.Proofs.YthafnphpcdbnlaaGreatDoor.S2
open Go.Proofs.YthafnphpcdbnlaaGreatDoor
open Go.RowKit Go.Maps
theorem neq50 (k a x y : Int) (w : World) : (binOp .neq 111 (.agg #[.int .u8 k, .int .u32 a, .int .u64 x, .int .u64 y]) (.agg #[.int .u8 k, .int .u32 a, .int .u64 x, .int .u64 y])).run Tryz.prog w = .ok (.bool false) w := by
  simp [go_sem, Tryz.underlying111]
theorem Both.new {w w' : World} {base B R : Nat} {L : LL} {n k a was is : Nat} (h : Both w base B R L n k a was is) (b : Below w.heap.size w w') : Both w' base B R L n k a was is := by
  obtain ⟨h1, h2, h3, h4, h5, M, s, c, r, hm, hs⟩ := h
  exact ⟨Nat.le_trans h1 b.size, h2, h3, h4, h5, M, s, c.kept (Turns.of_below (S := fun _ => False) b) (fun _ _ e => e), r.kept (Turns.of_below (S := fun _ => False) b) (fun e => e) (fun _ _ e => e), hm, hs⟩
/-- What Words tells, in one form. -/
def Told2 (w : World) (L : LL) (e : Ending) (w' : World) : Prop := ∃ p, e = .returned (.slice p L.length L.length) ∧ (0 < L.length → ∃ g, p = some ⟨g, 0, none⟩ ∧ w.heap.size ≤ g ∧ g < w'.heap.size ∧ Go.Sort.HoldsK encW 2 w' g 0 L.toArray) ∧ Below w.heap.size w w'
theorem tells_2 {w w' : World} {L : LL} {e : Ending} (h : Tells w L e w') : Told2 w L e w' := by
  rcases h with ⟨rfl, rfl, rfl⟩ | ⟨hp, g, rfl, h1, h2, h3, h4⟩
  · exact ⟨none, rfl, fun h => by simp at h, Below.refl _ _⟩
  · exact ⟨_, rfl, fun _ => ⟨g, rfl, h1, h2, h3⟩, h4⟩
theorem holds_pair {w : World} {g : Nat} {L : LL} (h : Go.Sort.HoldsK encW 2 w g 0 L.toArray) (i : Nat) (hi : i < L.length) : w.cell? ⟨g, i * 2, none⟩ = some (.int .u32 (L[i]!).1) ∧ w.cell? ⟨g, i * 2 + 1, none⟩ = some (.int .u64 (L[i]!).2) := by
  have h0 := (h.cell (i := i) (c := 0) (by simpa using hi) (by omega)).1
  have h1 := (h.cell (i := i) (c := 1) (by simpa using hi) (by omega)).1
  simp only [Nat.zero_add, Nat.add_zero] at h0 h1
  have e : L.toArray[i]! = L[i]! := by simp
  rw [e] at h0 h1
  exact ⟨h0, h1⟩
theorem keepR {w1 w w' : World} {R n k a was is len cap : Nat} {p0 : Option Addr} (hb : Below w.heap.size w w') (hR : R < w1.heap.size)
    (h : w.cell? ⟨R, 0, none⟩ = some (.slice p0 len cap) ∧ w.cell? ⟨R, 1, none⟩ = some (.int .i64 n) ∧ w.cell? ⟨R, 2, none⟩ = some (.int .u8 k) ∧ w.cell? ⟨R, 3, none⟩ = some (.int .u32 a) ∧ w.cell? ⟨R, 4, none⟩ = some (.int .u64 was) ∧ w.cell? ⟨R, 5, none⟩ = some (.int .u64 is) ∧ Below w1.heap.size w1 w) :
    w'.cell? ⟨R, 0, none⟩ = some (.slice p0 len cap) ∧ w'.cell? ⟨R, 1, none⟩ = some (.int .i64 n) ∧ w'.cell? ⟨R, 2, none⟩ = some (.int .u8 k) ∧ w'.cell? ⟨R, 3, none⟩ = some (.int .u32 a) ∧ w'.cell? ⟨R, 4, none⟩ = some (.int .u64 was) ∧ w'.cell? ⟨R, 5, none⟩ = some (.int .u64 is) ∧ Below w1.heap.size w1 w' := by
  obtain ⟨c0, c1, c2, c3, c4, c5, hl⟩ := h
  have hr : R < w.heap.size := Nat.lt_of_lt_of_le hR hl.size
  exact ⟨(hb.cell (by exact hr)).trans c0, (hb.cell (by exact hr)).trans c1, (hb.cell (by exact hr)).trans c2, (hb.cell (by exact hr)).trans c3, (hb.cell (by exact hr)).trans c4, (hb.cell (by exact hr)).trans c5, hl.trans (hb.mono hl.size)⟩
set_option maxHeartbeats 4000000 in
set_option maxRecDepth 100000 in
theorem same_any (w : World) (base B R : Nat) (L : LL) (n k a was is : Nat) (hb : Both w base B R L n k a was is) : Calls Tryz.prog 28 #[Pt B, Pt R] w fun e w' => e = .returned (.bool true) ∧ Below w.heap.size w w' := by
  obtain ⟨hbase, fb, fr, hne, byt, M, s, c0, r0, hm, hs⟩ := hb
  have hwd := (words_any w B M L n k a was is c0).mono fun _ _ h => tells_2 h
  have hlen := c0.good.length
  have HWD := Lib.hid hwd; have C0 := Lib.hid c0; have R0 := Lib.hid r0
  clear hm hs c0 r0 byt hne fb fr hwd
  go_enter Tryz.func28, Tryz.ntmps28
  go_wp2_with fail
  refine HWD.out.mono ?_
  rintro e w1 ⟨p, rfl, hp, hb1⟩
  have cW := C0.out.kept (Turns.of_below (S := fun _ => False) hb1) (fun _ _ e => e)
  have rW := R0.out.kept (Turns.of_below (S := fun _ => False) hb1) (fun e => e) (fun _ _ e => e)
  have hR := rW.lt
  obtain ⟨p0, cap, rfl, hp0⟩ := row_slice rW.own
  have e0 : w1.cell? ⟨R, 0, none⟩ = some (.slice p0 L.length cap) := cell_row rW.row 0
  have e1 : w1.cell? ⟨R, 1, none⟩ = some (.int .i64 n) := cell_row rW.row 1
  have e2 : w1.cell? ⟨R, 2, none⟩ = some (.int .u8 k) := cell_row rW.row 2
  have e3 : w1.cell? ⟨R, 3, none⟩ = some (.int .u32 a) := cell_row rW.row 3
  have e4 : w1.cell? ⟨R, 4, none⟩ = some (.int .u64 was) := cell_row rW.row 4
  have e5 : w1.cell? ⟨R, 5, none⟩ = some (.int .u64 is) := cell_row rW.row 5
  have HB1 := Lib.hid hb1; have HPP := Lib.hid hp; have HP0 := Lib.hid hp0; have CW := Lib.hid cW; have RW := Lib.hid rW; have E0 := Lib.hid e0
  have hn50 := neq50 k a was is
  clear hb1 hp hp0 cW rW
  go_upto_region 2 with (fail)
  refine wp_region_held_drew (S := fun w' => w'.cell? ⟨R, 0, none⟩ = some (.slice p0 L.length cap) ∧ w'.cell? ⟨R, 1, none⟩ = some (.int .i64 n) ∧ w'.cell? ⟨R, 2, none⟩ = some (.int .u8 k) ∧ w'.cell? ⟨R, 3, none⟩ = some (.int .u32 a) ∧ w'.cell? ⟨R, 4, none⟩ = some (.int .u64 was) ∧ w'.cell? ⟨R, 5, none⟩ = some (.int .u64 is) ∧ Below w1.heap.size w1 w') (by kernel_rfl) ?_ (fun hHeld => ?_)
  · exact ⟨e0, e1, e2, e3, e4, e5, (Below.refl _ _).drew⟩
  refine wpAnyH_take (i := 0) (oi := ({ dst := some 9, op := Op.move (Operand.tmp 0), type := 39, pos := "law.go:93", after := #[], guard := none } : Oper)) (v := ?vs0) rfl (by kernel_rfl) (by kernel_rfl) (by kernel_rfl) (fun _ _ _ h => h) (Or.inl ⟨by rfl, fun w hSw => ?hys0⟩) (by assumption) ?rs0
  case hys0 => (try dsimp only at hSw); go_simp; (try with_reducible rfl)
  (try simp only [Act.put, List.setIfInBounds_toArray, List.set_cons_zero, List.set_cons_succ])
  refine wpAnyH_take (i := 2) (oi := ({ dst := some 11, op := Op.move (Operand.tmp 1), type := 48, pos := "law.go:93", after := #[], guard := none } : Oper)) (v := ?vs2) rfl (by kernel_rfl) (by kernel_rfl) (by kernel_rfl) (fun _ _ _ h => h) (Or.inl ⟨by rfl, fun w hSw => ?hys2⟩) (by assumption) ?rs2
  case hys2 => (try dsimp only at hSw); go_simp; (try with_reducible rfl)
  (try simp only [Act.put, List.setIfInBounds_toArray, List.set_cons_zero, List.set_cons_succ])
  refine wpAnyH_take (i := 3) (oi := ({ dst := some 12, op := Op.nilCheck (Operand.tmp 11), type := 0, pos := "law.go:93", after := #[{ on := 2, ground := Ground.data }], guard := none } : Oper)) (v := ?vs3) rfl (by kernel_rfl) (by kernel_rfl) (by kernel_rfl) (fun _ _ _ h => h) (Or.inl ⟨by rfl, fun w hSw => ?hys3⟩) (by assumption) ?rs3
  case hys3 => (try dsimp only at hSw); go_simp; (try with_reducible rfl)
  (try simp only [Act.put, List.setIfInBounds_toArray, List.set_cons_zero, List.set_cons_succ])
  refine wpAnyH_take (i := 4) (oi := ({ dst := some 13, op := Op.fieldAddr 152 (Operand.tmp 12) 1, type := 0, pos := "law.go:93", after := #[{ on := 3, ground := Ground.data }], guard := none } : Oper)) (v := ?vs4) rfl (by kernel_rfl) (by kernel_rfl) (by kernel_rfl) (fun _ _ _ h => h) (Or.inl ⟨by rfl, fun w hSw => ?hys4⟩) (by assumption) ?rs4
  case hys4 => (try dsimp only at hSw); go_simp; (try with_reducible rfl)
  (try simp only [Act.put, List.setIfInBounds_toArray, List.set_cons_zero, List.set_cons_succ])
  refine wpAnyH_take (i := 5) (oi := ({ dst := some 14, op := Op.load 3 (Operand.tmp 13), type := 3, pos := "law.go:93", after := #[{ on := 4, ground := Ground.data }], guard := none } : Oper)) (v := ?vs5) rfl (by kernel_rfl) (by kernel_rfl) (by kernel_rfl) (fun _ _ _ h => h) (Or.inl ⟨by rfl, fun w hSw => ?hys5⟩) (by assumption) ?rs5
  case hys5 => (try dsimp only at hSw); go_simp; (try with_reducible rfl)
  (try simp only [Act.put, List.setIfInBounds_toArray, List.set_cons_zero, List.set_cons_succ])
  refine wpAnyH_ready (rs := [1]) (by kernel_rfl) (by simp) ?_
  refine AllReadyH.cons (o := ({ dst := some 10, op := Op.call { callee := Callee.value (Operand.func 38), args := #[Operand.tmp 9], argTypes := #[39] }, type := 3, pos := "law.go:93", after := #[{ on := 0, ground := Ground.data }], guard := none } : Oper)) rfl (fun K hK => ?_) AllReadyH.nil
  go_simp
  (refine (count_any _ B M L n k a was is (CW.out.kept (Turns.of_below (S := fun _ => False) hHeld.2.2.2.2.2.2) (fun _ _ e => e))).mono ?_; rintro e w2 ⟨rfl, rfl⟩)
  refine hK.out _ _ ?_ (fun hHeld => ?_)
  · exact hHeld
  clear hK K
  (try simp only [Act.put, List.setIfInBounds_toArray, List.set_cons_zero, List.set_cons_succ])
  refine wpAnyH_take (i := 6) (oi := ({ dst := some 15, op := Op.binOp BinOp.neq 3 (Operand.tmp 10) (Operand.tmp 14) 3, type := 4, pos := "law.go:93", after := #[{ on := 1, ground := Ground.data }, { on := 5, ground := Ground.data }], guard := none } : Oper)) (v := ?vs6) rfl (by kernel_rfl) (by kernel_rfl) (by kernel_rfl) (fun _ _ _ h => h) (Or.inl ⟨by rfl, fun w hSw => ?hys6⟩) (by assumption) ?rs6
  case hys6 => (try dsimp only at hSw); go_simp; (try with_reducible rfl)
  (try simp only [Act.put, List.setIfInBounds_toArray, List.set_cons_zero, List.set_cons_succ])
  refine wpAnyH_take (i := 7) (oi := ({ dst := some 16, op := Op.move (Operand.tmp 15), type := 4, pos := "law.go:93", after := #[{ on := 6, ground := Ground.data }, { on := 1, ground := Ground.chain }], guard := none } : Oper)) (v := ?vs7) rfl (by kernel_rfl) (by kernel_rfl) (by kernel_rfl) (fun _ _ _ h => h) (Or.inl ⟨by rfl, fun w hSw => ?hys7⟩) (by assumption) ?rs7
  case hys7 => (try dsimp only at hSw); go_simp; (try with_reducible rfl)
  (try simp only [Act.put, List.setIfInBounds_toArray, List.set_cons_zero, List.set_cons_succ])
  refine wpAnyH_take (i := 8) (oi := ({ dst := some 17, op := Op.move (Operand.tmp 0), type := 39, pos := "law.go:93", after := #[{ on := 7, ground := Ground.guard }], guard := some (7, false) } : Oper)) (v := ?vs8) rfl (by kernel_rfl) (by kernel_rfl) (by kernel_rfl) (fun _ _ _ h => h) (Or.inl ⟨by rfl, fun w hSw => ?hys8⟩) (by assumption) ?rs8
  case hys8 => (try dsimp only at hSw); go_simp; (try with_reducible rfl)
  (try simp only [Act.put, List.setIfInBounds_toArray, List.set_cons_zero, List.set_cons_succ])
  refine wpAnyH_take (i := 10) (oi := ({ dst := some 19, op := Op.move (Operand.tmp 1), type := 48, pos := "law.go:93", after := #[{ on := 7, ground := Ground.guard }], guard := some (7, false) } : Oper)) (v := ?vs10) rfl (by kernel_rfl) (by kernel_rfl) (by kernel_rfl) (fun _ _ _ h => h) (Or.inl ⟨by rfl, fun w hSw => ?hys10⟩) (by assumption) ?rs10
  case hys10 => (try dsimp only at hSw); go_simp; (try with_reducible rfl)
  (try simp only [Act.put, List.setIfInBounds_toArray, List.set_cons_zero, List.set_cons_succ])
  refine wpAnyH_take (i := 11) (oi := ({ dst := some 20, op := Op.nilCheck (Operand.tmp 19), type := 0, pos := "law.go:93", after := #[{ on := 10, ground := Ground.data }, { on := 7, ground := Ground.guard }], guard := some (7, false) } : Oper)) (v := ?vs11) rfl (by kernel_rfl) (by kernel_rfl) (by kernel_rfl) (fun _ _ _ h => h) (Or.inl ⟨by rfl, fun w hSw => ?hys11⟩) (by assumption) ?rs11
  case hys11 => (try dsimp only at hSw); go_simp; (try with_reducible rfl)
  (try simp only [Act.put, List.setIfInBounds_toArray, List.set_cons_zero, List.set_cons_succ])
  refine wpAnyH_take (i := 12) (oi := ({ dst := some 21, op := Op.fieldAddr 152 (Operand.tmp 20) 2, type := 0, pos := "law.go:93", after := #[{ on := 11, ground := Ground.data }, { on := 7, ground := Ground.guard }], guard := some (7, false) } : Oper)) (v := ?vs12) rfl (by kernel_rfl) (by kernel_rfl) (by kernel_rfl) (fun _ _ _ h => h) (Or.inl ⟨by rfl, fun w hSw => ?hys12⟩) (by assumption) ?rs12
  case hys12 => (try dsimp only at hSw); go_simp; (try with_reducible rfl)
  (try simp only [Act.put, List.setIfInBounds_toArray, List.set_cons_zero, List.set_cons_succ])
  refine wpAnyH_take (i := 13) (oi := ({ dst := some 22, op := Op.load 111 (Operand.tmp 21), type := 111, pos := "law.go:93", after := #[{ on := 12, ground := Ground.data }, { on := 7, ground := Ground.guard }], guard := some (7, false) } : Oper)) (v := ?vs13) rfl (by kernel_rfl) (by kernel_rfl) (by kernel_rfl) (fun _ _ _ h => h) (Or.inl ⟨by rfl, fun w hSw => ?hys13⟩) (by assumption) ?rs13
  case hys13 => (try dsimp only at hSw); go_simp; (try with_reducible rfl)
  (try simp only [Act.put, List.setIfInBounds_toArray, List.set_cons_zero, List.set_cons_succ])
  refine wpAnyH_ready (rs := [9]) (by kernel_rfl) (by simp) ?_
  refine AllReadyH.cons (o := ({ dst := some 18, op := Op.call { callee := Callee.value (Operand.func 57), args := #[Operand.tmp 17], argTypes := #[39] }, type := 111, pos := "law.go:93", after := #[{ on := 8, ground := Ground.data }, { on := 7, ground := Ground.chain }, { on := 7, ground := Ground.guard }], guard := some (7, false) } : Oper)) rfl (fun K hK => ?_) AllReadyH.nil
  go_simp
  (refine (last_any _ B M L n k a was is (CW.out.kept (Turns.of_below (S := fun _ => False) hHeld.2.2.2.2.2.2) (fun _ _ e => e))).mono ?_; rintro e w2 ⟨rfl, hb2⟩)
  refine hK.out _ _ ?_ (fun hHeld => ?_)
  · exact keepR hb2 hR hHeld
  clear hK K
  (try simp only [Act.put, List.setIfInBounds_toArray, List.set_cons_zero, List.set_cons_succ])
  refine wpAnyH_take (i := 14) (oi := ({ dst := some 23, op := Op.binOp BinOp.neq 111 (Operand.tmp 18) (Operand.tmp 22) 111, type := 4, pos := "law.go:93", after := #[{ on := 9, ground := Ground.data }, { on := 13, ground := Ground.data }, { on := 7, ground := Ground.guard }], guard := some (7, false) } : Oper)) (v := ?vs14) rfl (by kernel_rfl) (by kernel_rfl) (by kernel_rfl) (fun _ _ _ h => h) (Or.inl ⟨by rfl, fun w hSw => ?hys14⟩) (by assumption) ?rs14
  case hys14 => (try dsimp only at hSw); go_simp; (try with_reducible rfl)
  (try simp only [Act.put, List.setIfInBounds_toArray, List.set_cons_zero, List.set_cons_succ])
  refine wpAnyH_take (i := 15) (oi := ({ dst := some 24, op := Op.pick (Operand.tmp 16) (Operand.const (Value.bool true)) (Operand.tmp 23), type := 4, pos := "law.go:93", after := #[{ on := 7, ground := Ground.data }, { on := 14, ground := Ground.data }], guard := none } : Oper)) (v := ?vs15) rfl (by kernel_rfl) (by kernel_rfl) (by kernel_rfl) (fun _ _ _ h => h) (Or.inl ⟨by rfl, fun w hSw => ?hys15⟩) (by assumption) ?rs15
  case hys15 => (try dsimp only at hSw); go_simp; (try with_reducible rfl)
  (try simp only [Act.put, List.setIfInBounds_toArray, List.set_cons_zero, List.set_cons_succ])
  refine wpAnyH_take (i := 16) (oi := ({ dst := some 25, op := Op.move (Operand.tmp 24), type := 4, pos := "law.go:93", after := #[{ on := 15, ground := Ground.data }, { on := 9, ground := Ground.chain }], guard := none } : Oper)) (v := ?vs16) rfl (by kernel_rfl) (by kernel_rfl) (by kernel_rfl) (fun _ _ _ h => h) (Or.inl ⟨by rfl, fun w hSw => ?hys16⟩) (by assumption) ?rs16
  case hys16 => (try dsimp only at hSw); go_simp; (try with_reducible rfl)
  (try simp only [Act.put, List.setIfInBounds_toArray, List.set_cons_zero, List.set_cons_succ])
  refine wpAnyH_take (i := 17) (oi := ({ dst := some 26, op := Op.move (Operand.tmp 5), type := 132, pos := "law.go:93", after := #[{ on := 16, ground := Ground.guard }], guard := some (16, false) } : Oper)) (v := ?vs17) rfl (by kernel_rfl) (by kernel_rfl) (by kernel_rfl) (fun _ _ _ h => h) (Or.inl ⟨by rfl, fun w hSw => ?hys17⟩) (by assumption) ?rs17
  case hys17 => (try dsimp only at hSw); go_simp; (try with_reducible rfl)
  (try simp only [Act.put, List.setIfInBounds_toArray, List.set_cons_zero, List.set_cons_succ])
  refine wpAnyH_take (i := 18) (oi := ({ dst := some 27, op := Op.call { callee := Callee.builtin Builtin.len, args := #[Operand.tmp 26], argTypes := #[132] }, type := 3, pos := "law.go:93", after := #[{ on := 17, ground := Ground.data }, { on := 16, ground := Ground.guard }], guard := some (16, false) } : Oper)) (v := ?vs18) rfl (by kernel_rfl) (by kernel_rfl) (by kernel_rfl) (fun _ _ _ h => h) (Or.inl ⟨by rfl, fun w hSw => ?hys18⟩) (by assumption) ?rs18
  case hys18 => (try dsimp only at hSw); go_simp; (try with_reducible rfl)
  (try simp only [Act.put, List.setIfInBounds_toArray, List.set_cons_zero, List.set_cons_succ])
  refine wpAnyH_take (i := 19) (oi := ({ dst := some 28, op := Op.move (Operand.tmp 1), type := 48, pos := "law.go:93", after := #[{ on := 16, ground := Ground.guard }], guard := some (16, false) } : Oper)) (v := ?vs19) rfl (by kernel_rfl) (by kernel_rfl) (by kernel_rfl) (fun _ _ _ h => h) (Or.inl ⟨by rfl, fun w hSw => ?hys19⟩) (by assumption) ?rs19
  case hys19 => (try dsimp only at hSw); go_simp; (try with_reducible rfl)
  (try simp only [Act.put, List.setIfInBounds_toArray, List.set_cons_zero, List.set_cons_succ])
  refine wpAnyH_take (i := 20) (oi := ({ dst := some 29, op := Op.nilCheck (Operand.tmp 28), type := 0, pos := "law.go:93", after := #[{ on := 19, ground := Ground.data }, { on := 16, ground := Ground.guard }], guard := some (16, false) } : Oper)) (v := ?vs20) rfl (by kernel_rfl) (by kernel_rfl) (by kernel_rfl) (fun _ _ _ h => h) (Or.inl ⟨by rfl, fun w hSw => ?hys20⟩) (by assumption) ?rs20
  case hys20 => (try dsimp only at hSw); go_simp; (try with_reducible rfl)
  (try simp only [Act.put, List.setIfInBounds_toArray, List.set_cons_zero, List.set_cons_succ])
  refine wpAnyH_take (i := 21) (oi := ({ dst := some 30, op := Op.fieldAddr 152 (Operand.tmp 29) 0, type := 0, pos := "law.go:93", after := #[{ on := 20, ground := Ground.data }, { on := 16, ground := Ground.guard }], guard := some (16, false) } : Oper)) (v := ?vs21) rfl (by kernel_rfl) (by kernel_rfl) (by kernel_rfl) (fun _ _ _ h => h) (Or.inl ⟨by rfl, fun w hSw => ?hys21⟩) (by assumption) ?rs21
  case hys21 => (try dsimp only at hSw); go_simp; (try with_reducible rfl)
  (try simp only [Act.put, List.setIfInBounds_toArray, List.set_cons_zero, List.set_cons_succ])
  refine wpAnyH_take (i := 22) (oi := ({ dst := some 31, op := Op.load 78 (Operand.tmp 30), type := 78, pos := "law.go:93", after := #[{ on := 21, ground := Ground.data }, { on := 16, ground := Ground.guard }], guard := some (16, false) } : Oper)) (v := ?vs22) rfl (by kernel_rfl) (by kernel_rfl) (by kernel_rfl) (fun _ _ _ h => h) (Or.inl ⟨by rfl, fun w hSw => ?hys22⟩) (by assumption) ?rs22
  case hys22 => (try dsimp only at hSw); go_simp; (try with_reducible rfl)
  (try simp only [Act.put, List.setIfInBounds_toArray, List.set_cons_zero, List.set_cons_succ])
  refine wpAnyH_take (i := 23) (oi := ({ dst := some 32, op := Op.call { callee := Callee.builtin Builtin.len, args := #[Operand.tmp 31], argTypes := #[78] }, type := 3, pos := "law.go:93", after := #[{ on := 22, ground := Ground.data }, { on := 16, ground := Ground.guard }], guard := some (16, false) } : Oper)) (v := ?vs23) rfl (by kernel_rfl) (by kernel_rfl) (by kernel_rfl) (fun _ _ _ h => h) (Or.inl ⟨by rfl, fun w hSw => ?hys23⟩) (by assumption) ?rs23
  case hys23 => (try dsimp only at hSw); go_simp; (try with_reducible rfl)
  (try simp only [Act.put, List.setIfInBounds_toArray, List.set_cons_zero, List.set_cons_succ])
  refine wpAnyH_take (i := 24) (oi := ({ dst := some 33, op := Op.binOp BinOp.neq 3 (Operand.tmp 27) (Operand.tmp 32) 3, type := 4, pos := "law.go:93", after := #[{ on := 18, ground := Ground.data }, { on := 23, ground := Ground.data }, { on := 16, ground := Ground.guard }], guard := some (16, false) } : Oper)) (v := ?vs24) rfl (by kernel_rfl) (by kernel_rfl) (by kernel_rfl) (fun _ _ _ h => h) (Or.inl ⟨by rfl, fun w hSw => ?hys24⟩) (by assumption) ?rs24
  case hys24 => (try dsimp only at hSw); go_simp; (try with_reducible rfl)
  (try simp only [Act.put, List.setIfInBounds_toArray, List.set_cons_zero, List.set_cons_succ])
  refine wpAnyH_take (i := 25) (oi := ({ dst := some 34, op := Op.pick (Operand.tmp 25) (Operand.const (Value.bool true)) (Operand.tmp 33), type := 4, pos := "law.go:93", after := #[{ on := 16, ground := Ground.data }, { on := 24, ground := Ground.data }], guard := none } : Oper)) (v := ?vs25) rfl (by kernel_rfl) (by kernel_rfl) (by kernel_rfl) (fun _ _ _ h => h) (Or.inl ⟨by rfl, fun w hSw => ?hys25⟩) (by assumption) ?rs25
  case hys25 => (try dsimp only at hSw); go_simp; (try with_reducible rfl)
  (try simp only [Act.put, List.setIfInBounds_toArray, List.set_cons_zero, List.set_cons_succ])
  refine wpAnyH_done (by kernel_rfl) ?_ _
  have hb2 := hHeld.2.2.2.2.2.2
  have HB2 := Lib.hid hb2
  clear e0 e1 e2 e3 e4 e5 hn50 hb2
  go_wp2_with fail
  go_loopg [6] L.length (fun q s6 wx => ∃ t : Nat, t ≤ L.length ∧ q = L.length - t ∧ s6 = .int .i64 t ∧ Below w1.heap.size w1 wx)
  case atStart => exact ⟨0, by omega, rfl, rfl, HB2.out⟩
  case round =>
    obtain ⟨t, ht, rfl, rfl, hbx⟩ := hrel
    have HBX := Lib.hid hbx
    clear hbx
    by_cases htl : t < L.length
    · obtain ⟨g, rfl, hg1, hg2, hH⟩ := HPP.out (by omega)
      obtain ⟨g', rfl⟩ := HP0.out (by omega)
      have hg'l : g' < w1.heap.size := (RW.out.own.lt g' rfl).2
      obtain ⟨l1, l2⟩ := holds_pair hH t htl
      obtain ⟨m1, m2⟩ := row_pair RW.out.own t htl
      have x0 := (HBX.out.cell (p := ⟨R, 0, none⟩) (by exact hR)).trans E0.out
      have x1 := (HBX.out.cell (p := ⟨g, t * 2, none⟩) (by exact hg2)).trans l1
      have x2 := (HBX.out.cell (p := ⟨g, t * 2 + 1, none⟩) (by exact hg2)).trans l2
      have x3 := (HBX.out.cell (p := ⟨g', t * 2, none⟩) (by exact hg'l)).trans m1
      have x4 := (HBX.out.cell (p := ⟨g', t * 2 + 1, none⟩) (by exact hg'l)).trans m2
      generalize (L[t]!).1 = y1 at *
      generalize (L[t]!).2 = y2 at *
      have z1 : ((y1 : Int) != (y1 : Int)) = false := by simp
      clear l1 l2 m1 m2 hH
      go_upto_region 7 with (fail)
      go_quiet (fail)
      go_wp2_with fail
      go_roundg (L.length - (t + 1))
      case measure => omega
      case rel => exact ⟨t + 1, by omega, rfl, by go_num, HBX.out.trans ⟨rfl, rfl, rfl, Nat.le_refl _, fun _ _ => rfl⟩⟩
    · go_wp2_with fail
      go_ret
      exact ⟨rfl, HB1.out.trans (HBX.out.mono HB1.out.size)⟩
end Go.Proofs.YthafnphpcdbnlaaGreatDoor.S2
