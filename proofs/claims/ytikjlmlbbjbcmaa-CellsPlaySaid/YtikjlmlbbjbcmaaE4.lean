/- One access to both: what is told is the same. -/
import Derived.Test.YtikjlmlbbjbcmaaE3
import Derived.Deep.RegionHeld3
import Derived.Deep.DeepCutAuto
namespace Go.Proofs.Ytikjlmlbbjbcmaa
open Go.RowKit Go.Maps

theorem keep2 {S : Nat → Prop} {xb A V : Nat} {w w' : World} (h : w.cell? ⟨xb, 1, none⟩ = some (.int .u32 A) ∧ w.cell? ⟨xb, 2, none⟩ = some (.int .u64 V)) (t : Turns S w w') (hn : ¬ S xb) : w'.cell? ⟨xb, 1, none⟩ = some (.int .u32 A) ∧ w'.cell? ⟨xb, 2, none⟩ = some (.int .u64 V) := by
  have hx : xb < w.heap.size := World.block_lt_of_cell? w _ h.1
  have e := t.block xb hx hn
  exact ⟨(World.cell?_of_block (w := w) e).trans h.1, (World.cell?_of_block (w := w) e).trans h.2⟩
theorem cell_turns {S : Nat → Prop} {xb o : Nat} {v : Value} {w w' : World} (h : w.cell? ⟨xb, o, none⟩ = some v) (t : Turns S w w') (hn : ¬ S xb) : w'.cell? ⟨xb, o, none⟩ = some v :=
  (World.cell?_of_block (w := w) (t.block xb (World.block_lt_of_cell? w _ h) hn)).trans h
/-- What 'do' leaves. -/
def DoLeft (w w' : World) (base B R : Nat) (n : Nat) : Prop := ∃ L k a was is, Both w' base B R L n k a was is ∧ Below base w w'
theorem turns_drew (S : Nat → Prop) (w : World) : Turns S w w.drew := Turns.of_below ((Below.refl _ _).drew)
theorem left_turns {w w' : World} {B : Nat} {M : Option Nat} {L : LL} {n k a was is : Nat} (l : Left w w' B M L n k a was is) : Turns (Fp B M) w w' := let ⟨_, _, _, t⟩ := l; t
theorem info39 : (Try.prog.info? 39).map (fun i => i.size) = some 5 := by kernel_rfl
set_option maxHeartbeats 8000000 in
set_option maxRecDepth 100000 in
theorem do_any (w : World) (base B R : Nat) (L : LL) (n k0 a0 was is K A V U : Nat) (Rg : Bool) (hb : Both w base B R L n k0 a0 was is) (hA : A < 4294967296) (hV : V < 18446744073709551616) (hn : n < 4611686018427387904) :
    Calls Try.prog 11 #[Pt B, Pt R, .agg #[.int .u8 K, .int .u32 A, .int .u64 V, .int .u64 U, .bool Rg]] w fun e w' => e = .returned (.bool true) ∧ DoLeft w w' base B R (n + 1) := by
  obtain ⟨hbase, fb, fr, hne, byt, M, s, c0, r0, hm, hs⟩ := hb
  have hxF : ¬ Fp B M w.heap.size := fun h => by have := c0.lt _ h; omega
  have hxR : w.heap.size ≠ R := by have := r0.lt; omega
  have HM := Lib.hid hm; have HSB := Lib.hid hs; have C0 := Lib.hid c0; have R0 := Lib.hid r0; have BYT := Lib.hid byt; have XF := Lib.hid hxF; have XR := Lib.hid hxR; have NE := Lib.hid hne
  clear hm hs c0 r0 byt hxF hxR hne
  go_enter Try.func11, Try.ntmps11
  go_upto_if 12 with (fail)
  go_cut [] (fun wc => ∃ U' : Nat, wc.cell? ⟨w.heap.size, 0, none⟩ = some (.int .u8 K) ∧ wc.cell? ⟨w.heap.size, 1, none⟩ = some (.int .u32 A) ∧ wc.cell? ⟨w.heap.size, 2, none⟩ = some (.int .u64 V) ∧ wc.cell? ⟨w.heap.size, 3, none⟩ = some (.int .u64 U') ∧ Below w.heap.size w wc)
  case first =>
    cases Rg
    · go_wp2_with fail
      go_meet
      case rel =>
        refine ⟨U, ?_, ?_, ?_, ?_, (Below.refl _ _).alloc (Nat.le_refl _) _⟩ <;> (rw [World.cell?_alloc_at _ _ _ _ rfl]; rfl)
    · have hp := rpeek_any (w.alloc (.cells #[.int .u8 K, .int .u32 A, .int .u64 V, .int .u64 U, .bool true] 39)) base R s L n k0 a0 was is A (R0.out.kept (Turns.of_below (S := fun _ => False) ((Below.refl _ _).alloc (Nat.le_refl _) _)) (fun h => h) (fun _ _ h => h))
      have HP := Lib.hid hp
      clear hp
      go_wp2_with (go_at_call 13; refine HP.out.mono ?_; rintro e w' ⟨rfl, rfl⟩)
      go_meet
      case rel =>
        refine ⟨look L A, ?_, ?_, ?_, ?_, (Below.refl _ _).alloc (Nat.le_refl _) _⟩ <;> (rw [World.cell?_alloc_at _ _ _ _ rfl]; rfl)
  case rest =>
    obtain ⟨U', b0, b1, b2, b3, hw⟩ := hcut
    have HW := Lib.hid hw
    have cC := C0.out.kept (Turns.of_below (S := fun _ => False) hw) (fun _ _ h => h)
    have rC := R0.out.kept (Turns.of_below (S := fun _ => False) hw) (fun h => h) (fun _ _ h => h)
    have CC := Lib.hid cC; have RC := Lib.hid rC
    have CD := Lib.hid (cC.kept (turns_drew (fun _ => False) _) (fun _ _ h => h)); have RD := Lib.hid (rC.kept (turns_drew (fun _ => False) _) (fun h => h) (fun _ _ h => h))
    have hbc := Nat.le_trans hbase hw.size
    clear cC rC hw
    have hq : K % 7 = 0 ∨ K % 7 = 1 ∨ K % 7 = 2 ∨ K % 7 = 3 ∨ K % 7 = 4 ∨ K % 7 = 5 ∨ K % 7 = 6 := by omega
    rcases hq with hq | hq | hq | hq | hq | hq | hq
    · have hq2 : ((K : Int) % 7) = 0 := by omega
      clear hq
      go_upto_region 5 with (fail)
      refine wp_region_held_drew (S := fun w' => w'.cell? ⟨w.heap.size, 1, none⟩ = some (.int .u32 A) ∧ w'.cell? ⟨w.heap.size, 2, none⟩ = some (.int .u64 V)) (by kernel_rfl) ?_ (fun hHeld => ?_)
      · exact ⟨b1, b2⟩
      refine wpAnyH_take (i := 0) (oi := ({ dst := some 23, op := Op.move (Operand.tmp 0), type := 32, pos := "law.go:26", after := #[], guard := none } : Oper)) (v := ?vk00) rfl (by kernel_rfl) (by kernel_rfl) (by kernel_rfl) (fun _ _ _ h => h) (Or.inl ⟨by rfl, fun w hSw => ?hyk00⟩) (by assumption) ?rk00
      case hyk00 => (try dsimp only at hSw); go_simp; (try with_reducible rfl)
      (try simp only [Act.put, List.setIfInBounds_toArray, List.set_cons_zero, List.set_cons_succ])
      refine wpAnyH_take (i := 1) (oi := ({ dst := some 24, op := Op.fieldAddr 39 (Operand.tmp 5) 1, type := 0, pos := "law.go:26", after := #[], guard := none } : Oper)) (v := ?vk01) rfl (by kernel_rfl) (by kernel_rfl) (by kernel_rfl) (fun _ _ _ h => h) (Or.inl ⟨by rfl, fun w hSw => ?hyk01⟩) (by assumption) ?rk01
      case hyk01 => (try dsimp only at hSw); go_simp; (try with_reducible rfl)
      (try simp only [Act.put, List.setIfInBounds_toArray, List.set_cons_zero, List.set_cons_succ])
      refine wpAnyH_take (i := 2) (oi := ({ dst := some 25, op := Op.load 27 (Operand.tmp 24), type := 27, pos := "law.go:26", after := #[{ on := 1, ground := Ground.data }], guard := none } : Oper)) (v := ?vk02) rfl (by kernel_rfl) (by kernel_rfl) (by kernel_rfl) (fun _ _ _ h => h) (Or.inl ⟨by rfl, fun w hSw => ?hyk02⟩) (by assumption) ?rk02
      case hyk02 => (try dsimp only at hSw); go_simp; (try with_reducible rfl)
      (try simp only [Act.put, List.setIfInBounds_toArray, List.set_cons_zero, List.set_cons_succ])
      refine wpAnyH_take (i := 4) (oi := ({ dst := some 27, op := Op.move (Operand.tmp 1), type := 34, pos := "law.go:26", after := #[], guard := none } : Oper)) (v := ?vk04) rfl (by kernel_rfl) (by kernel_rfl) (by kernel_rfl) (fun _ _ _ h => h) (Or.inl ⟨by rfl, fun w hSw => ?hyk04⟩) (by assumption) ?rk04
      case hyk04 => (try dsimp only at hSw); go_simp; (try with_reducible rfl)
      (try simp only [Act.put, List.setIfInBounds_toArray, List.set_cons_zero, List.set_cons_succ])
      refine wpAnyH_take (i := 5) (oi := ({ dst := some 28, op := Op.fieldAddr 39 (Operand.tmp 5) 1, type := 0, pos := "law.go:26", after := #[], guard := none } : Oper)) (v := ?vk05) rfl (by kernel_rfl) (by kernel_rfl) (by kernel_rfl) (fun _ _ _ h => h) (Or.inl ⟨by rfl, fun w hSw => ?hyk05⟩) (by assumption) ?rk05
      case hyk05 => (try dsimp only at hSw); go_simp; (try with_reducible rfl)
      (try simp only [Act.put, List.setIfInBounds_toArray, List.set_cons_zero, List.set_cons_succ])
      refine wpAnyH_take (i := 6) (oi := ({ dst := some 29, op := Op.load 27 (Operand.tmp 28), type := 27, pos := "law.go:26", after := #[{ on := 5, ground := Ground.data }], guard := none } : Oper)) (v := ?vk06) rfl (by kernel_rfl) (by kernel_rfl) (by kernel_rfl) (fun _ _ _ h => h) (Or.inl ⟨by rfl, fun w hSw => ?hyk06⟩) (by assumption) ?rk06
      case hyk06 => (try dsimp only at hSw); go_simp; (try with_reducible rfl)
      (try simp only [Act.put, List.setIfInBounds_toArray, List.set_cons_zero, List.set_cons_succ])
      refine wpAnyH_ready (rs := [3]) (by kernel_rfl) (by simp) ?_
      refine AllReadyH.cons (o := ({ dst := some 26, op := Op.call { callee := Callee.value (Operand.func 18), args := #[Operand.tmp 23, Operand.tmp 25], argTypes := #[32, 27] }, type := 28, pos := "law.go:26", after := #[{ on := 0, ground := Ground.data }, { on := 2, ground := Ground.data }], guard := none } : Oper)) rfl (fun K hK => ?_) AllReadyH.nil
      go_simp
      (refine (load_any _ B M L n k0 a0 was is A CD.out hA hn).mono ?_; rintro e w1 ⟨rfl, l1⟩)
      refine hK.out _ _ ?_ (fun hHeld => ?_)
      · exact keep2 hHeld (left_turns l1) XF.out
      clear hK K
      (try simp only [Act.put, List.setIfInBounds_toArray, List.set_cons_zero, List.set_cons_succ])
      refine wpAnyH_ready (rs := [7]) (by kernel_rfl) (by simp) ?_
      refine AllReadyH.cons (o := ({ dst := some 30, op := Op.call { callee := Callee.value (Operand.func 29), args := #[Operand.tmp 27, Operand.tmp 29], argTypes := #[34, 27] }, type := 28, pos := "law.go:26", after := #[{ on := 4, ground := Ground.data }, { on := 6, ground := Ground.data }, { on := 3, ground := Ground.chain }], guard := none } : Oper)) rfl (fun K hK => ?_) AllReadyH.nil
      go_simp
      (refine (rload_any _ base R s L n k0 a0 was is A (ref_behind NE.out RD.out HM.out HSB.out l1) hn).mono ?_; rintro e w2 ⟨rfl, r2, t2⟩)
      refine hK.out _ _ ?_ (fun hHeld => ?_)
      · exact keep2 hHeld t2 XR.out
      clear hK K
      (try simp only [Act.put, List.setIfInBounds_toArray, List.set_cons_zero, List.set_cons_succ])
      refine wpAnyH_take (i := 8) (oi := ({ dst := some 31, op := Op.binOp BinOp.eql 28 (Operand.tmp 26) (Operand.tmp 30) 28, type := 4, pos := "law.go:26", after := #[{ on := 3, ground := Ground.data }, { on := 7, ground := Ground.data }], guard := none } : Oper)) (v := ?vk08) rfl (by kernel_rfl) (by kernel_rfl) (by kernel_rfl) (fun _ _ _ h => h) (Or.inl ⟨by rfl, fun w hSw => ?hyk08⟩) (by assumption) ?rk08
      case hyk08 => (try dsimp only at hSw); go_simp; (try with_reducible rfl)
      (try simp only [Act.put, List.setIfInBounds_toArray, List.set_cons_zero, List.set_cons_succ])
      refine wpAnyH_take (i := 9) (oi := ({ dst := some 6, op := Op.assign (Operand.tmp 31), type := 4, pos := "law.go:26", after := #[{ on := 8, ground := Ground.data }, { on := 7, ground := Ground.chain }, { on := 0, ground := Ground.phase }, { on := 1, ground := Ground.phase }, { on := 2, ground := Ground.phase }, { on := 3, ground := Ground.phase }, { on := 4, ground := Ground.phase }, { on := 5, ground := Ground.phase }, { on := 6, ground := Ground.phase }, { on := 7, ground := Ground.phase }, { on := 8, ground := Ground.phase }], guard := none } : Oper)) (v := ?vk09) rfl (by kernel_rfl) (by kernel_rfl) (by kernel_rfl) (fun _ _ _ h => h) (Or.inl ⟨by rfl, fun w hSw => ?hyk09⟩) (by assumption) ?rk09
      case hyk09 => (try dsimp only at hSw); go_simp; (try with_reducible rfl)
      (try simp only [Act.put, List.setIfInBounds_toArray, List.set_cons_zero, List.set_cons_succ])
      refine wpAnyH_done (by kernel_rfl) ?_ _
      go_wp2_with fail
      go_ret
      have l1' : Left wc.drew w1 B M L (n + 1) 1 A (look L A) (look L A) := by
        have hx := l1
        rw [bring_look BYT.out A, putL_look C0.out.good hA] at hx
        exact hx
      have hbo := both_step (w := wc.drew) hbc fb fr NE.out CD.out RD.out HM.out HSB.out BYT.out l1' ⟨s, r2, .inl rfl, t2⟩
      exact ⟨by simp, _, _, _, _, _, hbo.1, (HW.out.mono hbase).trans ((Below.refl _ _).drew.trans hbo.2)⟩
    · have hq2 : ((K : Int) % 7) = 1 := by omega
      clear hq
      go_upto_region 7 with (fail)
      refine wp_region_held_drew (S := fun w' => w'.cell? ⟨w.heap.size, 1, none⟩ = some (.int .u32 A) ∧ w'.cell? ⟨w.heap.size, 2, none⟩ = some (.int .u64 V)) (by kernel_rfl) ?_ (fun hHeld => ?_)
      · exact ⟨b1, b2⟩
      refine wpAnyH_take (i := 0) (oi := ({ dst := some 34, op := Op.move (Operand.tmp 0), type := 32, pos := "law.go:28", after := #[], guard := none } : Oper)) (v := ?vk10) rfl (by kernel_rfl) (by kernel_rfl) (by kernel_rfl) (fun _ _ _ h => h) (Or.inl ⟨by rfl, fun w hSw => ?hyk10⟩) (by assumption) ?rk10
      case hyk10 => (try dsimp only at hSw); go_simp; (try with_reducible rfl)
      (try simp only [Act.put, List.setIfInBounds_toArray, List.set_cons_zero, List.set_cons_succ])
      refine wpAnyH_take (i := 1) (oi := ({ dst := some 35, op := Op.fieldAddr 39 (Operand.tmp 5) 1, type := 0, pos := "law.go:28", after := #[], guard := none } : Oper)) (v := ?vk11) rfl (by kernel_rfl) (by kernel_rfl) (by kernel_rfl) (fun _ _ _ h => h) (Or.inl ⟨by rfl, fun w hSw => ?hyk11⟩) (by assumption) ?rk11
      case hyk11 => (try dsimp only at hSw); go_simp; (try with_reducible rfl)
      (try simp only [Act.put, List.setIfInBounds_toArray, List.set_cons_zero, List.set_cons_succ])
      refine wpAnyH_take (i := 2) (oi := ({ dst := some 36, op := Op.load 27 (Operand.tmp 35), type := 27, pos := "law.go:28", after := #[{ on := 1, ground := Ground.data }], guard := none } : Oper)) (v := ?vk12) rfl (by kernel_rfl) (by kernel_rfl) (by kernel_rfl) (fun _ _ _ h => h) (Or.inl ⟨by rfl, fun w hSw => ?hyk12⟩) (by assumption) ?rk12
      case hyk12 => (try dsimp only at hSw); go_simp; (try with_reducible rfl)
      (try simp only [Act.put, List.setIfInBounds_toArray, List.set_cons_zero, List.set_cons_succ])
      refine wpAnyH_take (i := 3) (oi := ({ dst := some 37, op := Op.fieldAddr 39 (Operand.tmp 5) 2, type := 0, pos := "law.go:28", after := #[], guard := none } : Oper)) (v := ?vk13) rfl (by kernel_rfl) (by kernel_rfl) (by kernel_rfl) (fun _ _ _ h => h) (Or.inl ⟨by rfl, fun w hSw => ?hyk13⟩) (by assumption) ?rk13
      case hyk13 => (try dsimp only at hSw); go_simp; (try with_reducible rfl)
      (try simp only [Act.put, List.setIfInBounds_toArray, List.set_cons_zero, List.set_cons_succ])
      refine wpAnyH_take (i := 4) (oi := ({ dst := some 38, op := Op.load 28 (Operand.tmp 37), type := 28, pos := "law.go:28", after := #[{ on := 3, ground := Ground.data }], guard := none } : Oper)) (v := ?vk14) rfl (by kernel_rfl) (by kernel_rfl) (by kernel_rfl) (fun _ _ _ h => h) (Or.inl ⟨by rfl, fun w hSw => ?hyk14⟩) (by assumption) ?rk14
      case hyk14 => (try dsimp only at hSw); go_simp; (try with_reducible rfl)
      (try simp only [Act.put, List.setIfInBounds_toArray, List.set_cons_zero, List.set_cons_succ])
      refine wpAnyH_take (i := 6) (oi := ({ dst := some 40, op := Op.move (Operand.tmp 1), type := 34, pos := "law.go:28", after := #[], guard := none } : Oper)) (v := ?vk16) rfl (by kernel_rfl) (by kernel_rfl) (by kernel_rfl) (fun _ _ _ h => h) (Or.inl ⟨by rfl, fun w hSw => ?hyk16⟩) (by assumption) ?rk16
      case hyk16 => (try dsimp only at hSw); go_simp; (try with_reducible rfl)
      (try simp only [Act.put, List.setIfInBounds_toArray, List.set_cons_zero, List.set_cons_succ])
      refine wpAnyH_take (i := 7) (oi := ({ dst := some 41, op := Op.fieldAddr 39 (Operand.tmp 5) 1, type := 0, pos := "law.go:28", after := #[], guard := none } : Oper)) (v := ?vk17) rfl (by kernel_rfl) (by kernel_rfl) (by kernel_rfl) (fun _ _ _ h => h) (Or.inl ⟨by rfl, fun w hSw => ?hyk17⟩) (by assumption) ?rk17
      case hyk17 => (try dsimp only at hSw); go_simp; (try with_reducible rfl)
      (try simp only [Act.put, List.setIfInBounds_toArray, List.set_cons_zero, List.set_cons_succ])
      refine wpAnyH_take (i := 8) (oi := ({ dst := some 42, op := Op.load 27 (Operand.tmp 41), type := 27, pos := "law.go:28", after := #[{ on := 7, ground := Ground.data }], guard := none } : Oper)) (v := ?vk18) rfl (by kernel_rfl) (by kernel_rfl) (by kernel_rfl) (fun _ _ _ h => h) (Or.inl ⟨by rfl, fun w hSw => ?hyk18⟩) (by assumption) ?rk18
      case hyk18 => (try dsimp only at hSw); go_simp; (try with_reducible rfl)
      (try simp only [Act.put, List.setIfInBounds_toArray, List.set_cons_zero, List.set_cons_succ])
      refine wpAnyH_take (i := 9) (oi := ({ dst := some 43, op := Op.fieldAddr 39 (Operand.tmp 5) 2, type := 0, pos := "law.go:28", after := #[], guard := none } : Oper)) (v := ?vk19) rfl (by kernel_rfl) (by kernel_rfl) (by kernel_rfl) (fun _ _ _ h => h) (Or.inl ⟨by rfl, fun w hSw => ?hyk19⟩) (by assumption) ?rk19
      case hyk19 => (try dsimp only at hSw); go_simp; (try with_reducible rfl)
      (try simp only [Act.put, List.setIfInBounds_toArray, List.set_cons_zero, List.set_cons_succ])
      refine wpAnyH_take (i := 10) (oi := ({ dst := some 44, op := Op.load 28 (Operand.tmp 43), type := 28, pos := "law.go:28", after := #[{ on := 9, ground := Ground.data }], guard := none } : Oper)) (v := ?vk110) rfl (by kernel_rfl) (by kernel_rfl) (by kernel_rfl) (fun _ _ _ h => h) (Or.inl ⟨by rfl, fun w hSw => ?hyk110⟩) (by assumption) ?rk110
      case hyk110 => (try dsimp only at hSw); go_simp; (try with_reducible rfl)
      (try simp only [Act.put, List.setIfInBounds_toArray, List.set_cons_zero, List.set_cons_succ])
      refine wpAnyH_ready (rs := [5]) (by kernel_rfl) (by simp) ?_
      refine AllReadyH.cons (o := ({ dst := some 39, op := Op.call { callee := Callee.value (Operand.func 19), args := #[Operand.tmp 34, Operand.tmp 36, Operand.tmp 38], argTypes := #[32, 27, 28] }, type := 28, pos := "law.go:28", after := #[{ on := 0, ground := Ground.data }, { on := 2, ground := Ground.data }, { on := 4, ground := Ground.data }], guard := none } : Oper)) rfl (fun K hK => ?_) AllReadyH.nil
      go_simp
      (refine (store_any _ B M L n k0 a0 was is A V CD.out hA hV hn).mono ?_; rintro e w1 ⟨rfl, l1⟩)
      refine hK.out _ _ ?_ (fun hHeld => ?_)
      · exact keep2 hHeld (left_turns l1) XF.out
      clear hK K
      (try simp only [Act.put, List.setIfInBounds_toArray, List.set_cons_zero, List.set_cons_succ])
      refine wpAnyH_ready (rs := [11]) (by kernel_rfl) (by simp) ?_
      refine AllReadyH.cons (o := ({ dst := some 45, op := Op.call { callee := Callee.value (Operand.func 28), args := #[Operand.tmp 40, Operand.tmp 42, Operand.tmp 44], argTypes := #[34, 27, 28] }, type := 28, pos := "law.go:28", after := #[{ on := 6, ground := Ground.data }, { on := 8, ground := Ground.data }, { on := 10, ground := Ground.data }, { on := 5, ground := Ground.chain }], guard := none } : Oper)) rfl (fun K hK => ?_) AllReadyH.nil
      go_simp
      (refine (rstore_any _ base R s L n k0 a0 was is A V (ref_behind NE.out RD.out HM.out HSB.out l1) (Nat.le_trans hbc (left_turns l1).size) hA hn hV).mono ?_; rintro e w2 ⟨rfl, l2⟩)
      refine hK.out _ _ ?_ (fun hHeld => ?_)
      · exact keep2 hHeld (show Turns (fun j => j = R) _ _ from l2.choose_spec.2.2) XR.out
      clear hK K
      (try simp only [Act.put, List.setIfInBounds_toArray, List.set_cons_zero, List.set_cons_succ])
      refine wpAnyH_take (i := 12) (oi := ({ dst := some 46, op := Op.binOp BinOp.eql 28 (Operand.tmp 39) (Operand.tmp 45) 28, type := 4, pos := "law.go:28", after := #[{ on := 5, ground := Ground.data }, { on := 11, ground := Ground.data }], guard := none } : Oper)) (v := ?vk112) rfl (by kernel_rfl) (by kernel_rfl) (by kernel_rfl) (fun _ _ _ h => h) (Or.inl ⟨by rfl, fun w hSw => ?hyk112⟩) (by assumption) ?rk112
      case hyk112 => (try dsimp only at hSw); go_simp; (try with_reducible rfl)
      (try simp only [Act.put, List.setIfInBounds_toArray, List.set_cons_zero, List.set_cons_succ])
      refine wpAnyH_take (i := 13) (oi := ({ dst := some 6, op := Op.assign (Operand.tmp 46), type := 4, pos := "law.go:28", after := #[{ on := 12, ground := Ground.data }, { on := 11, ground := Ground.chain }, { on := 0, ground := Ground.phase }, { on := 1, ground := Ground.phase }, { on := 2, ground := Ground.phase }, { on := 3, ground := Ground.phase }, { on := 4, ground := Ground.phase }, { on := 5, ground := Ground.phase }, { on := 6, ground := Ground.phase }, { on := 7, ground := Ground.phase }, { on := 8, ground := Ground.phase }, { on := 9, ground := Ground.phase }, { on := 10, ground := Ground.phase }, { on := 11, ground := Ground.phase }, { on := 12, ground := Ground.phase }], guard := none } : Oper)) (v := ?vk113) rfl (by kernel_rfl) (by kernel_rfl) (by kernel_rfl) (fun _ _ _ h => h) (Or.inl ⟨by rfl, fun w hSw => ?hyk113⟩) (by assumption) ?rk113
      case hyk113 => (try dsimp only at hSw); go_simp; (try with_reducible rfl)
      (try simp only [Act.put, List.setIfInBounds_toArray, List.set_cons_zero, List.set_cons_succ])
      refine wpAnyH_done (by kernel_rfl) ?_ _
      go_wp2_with fail
      go_ret
      obtain ⟨s', r2, ho, t2⟩ := l2
      have hbo := both_step (w := wc.drew) hbc fb fr NE.out CD.out RD.out HM.out HSB.out (BYT.out.put A _) l1 ⟨s', r2, .inr ho, t2⟩
      exact ⟨by simp, _, _, _, _, _, hbo.1, (HW.out.mono hbase).trans ((Below.refl _ _).drew.trans hbo.2)⟩
    · have hq2 : ((K : Int) % 7) = 2 := by omega
      clear hq
      go_wp2_with (first
        | (go_at_call 17; refine (cas_any _ B M L n k0 a0 was is A U' V CC.out hA hV hn).mono ?_; rintro e w1 ⟨rfl, l1⟩; (have LL := Lib.hid (l1 : Left _ w1 B M _ _ _ _ _ _)); (have b1 := cell_turns b1 (left_turns l1) XF.out); (have b2 := cell_turns b2 (left_turns l1) XF.out); (have b3 := cell_turns b3 (left_turns l1) XF.out); clear l1)
        | (go_at_call 30; refine (rcas_any _ base R s L n k0 a0 was is A U' V (ref_behind NE.out RC.out HM.out HSB.out LL.out) (Nat.le_trans hbc (left_turns LL.out).size) hA hn hV).mono ?_; rintro e w2 ⟨rfl, l2⟩; (have LR := Lib.hid l2; clear l2)))
      go_ret
      obtain ⟨s', r2, ho, t2⟩ := LR.out
      have hbo := both_step hbc fb fr NE.out CC.out RC.out HM.out HSB.out (BYT.out.put A _) LL.out ⟨s', r2, .inr ho, t2⟩
      exact ⟨by simp, _, _, _, _, _, hbo.1, (HW.out.mono hbase).trans hbo.2⟩
    · have hq2 : ((K : Int) % 7) = 3 := by omega
      clear hq
      go_upto_region 13 with (fail)
      refine wp_region_held_drew (S := fun w' => w'.cell? ⟨w.heap.size, 1, none⟩ = some (.int .u32 A) ∧ w'.cell? ⟨w.heap.size, 2, none⟩ = some (.int .u64 V)) (by kernel_rfl) ?_ (fun hHeld => ?_)
      · exact ⟨b1, b2⟩
      refine wpAnyH_take (i := 0) (oi := ({ dst := some 81, op := Op.move (Operand.tmp 0), type := 32, pos := "law.go:34", after := #[], guard := none } : Oper)) (v := ?vk30) rfl (by kernel_rfl) (by kernel_rfl) (by kernel_rfl) (fun _ _ _ h => h) (Or.inl ⟨by rfl, fun w hSw => ?hyk30⟩) (by assumption) ?rk30
      case hyk30 => (try dsimp only at hSw); go_simp; (try with_reducible rfl)
      (try simp only [Act.put, List.setIfInBounds_toArray, List.set_cons_zero, List.set_cons_succ])
      refine wpAnyH_take (i := 1) (oi := ({ dst := some 82, op := Op.fieldAddr 39 (Operand.tmp 5) 1, type := 0, pos := "law.go:34", after := #[], guard := none } : Oper)) (v := ?vk31) rfl (by kernel_rfl) (by kernel_rfl) (by kernel_rfl) (fun _ _ _ h => h) (Or.inl ⟨by rfl, fun w hSw => ?hyk31⟩) (by assumption) ?rk31
      case hyk31 => (try dsimp only at hSw); go_simp; (try with_reducible rfl)
      (try simp only [Act.put, List.setIfInBounds_toArray, List.set_cons_zero, List.set_cons_succ])
      refine wpAnyH_take (i := 2) (oi := ({ dst := some 83, op := Op.load 27 (Operand.tmp 82), type := 27, pos := "law.go:34", after := #[{ on := 1, ground := Ground.data }], guard := none } : Oper)) (v := ?vk32) rfl (by kernel_rfl) (by kernel_rfl) (by kernel_rfl) (fun _ _ _ h => h) (Or.inl ⟨by rfl, fun w hSw => ?hyk32⟩) (by assumption) ?rk32
      case hyk32 => (try dsimp only at hSw); go_simp; (try with_reducible rfl)
      (try simp only [Act.put, List.setIfInBounds_toArray, List.set_cons_zero, List.set_cons_succ])
      refine wpAnyH_take (i := 3) (oi := ({ dst := some 84, op := Op.fieldAddr 39 (Operand.tmp 5) 2, type := 0, pos := "law.go:34", after := #[], guard := none } : Oper)) (v := ?vk33) rfl (by kernel_rfl) (by kernel_rfl) (by kernel_rfl) (fun _ _ _ h => h) (Or.inl ⟨by rfl, fun w hSw => ?hyk33⟩) (by assumption) ?rk33
      case hyk33 => (try dsimp only at hSw); go_simp; (try with_reducible rfl)
      (try simp only [Act.put, List.setIfInBounds_toArray, List.set_cons_zero, List.set_cons_succ])
      refine wpAnyH_take (i := 4) (oi := ({ dst := some 85, op := Op.load 28 (Operand.tmp 84), type := 28, pos := "law.go:34", after := #[{ on := 3, ground := Ground.data }], guard := none } : Oper)) (v := ?vk34) rfl (by kernel_rfl) (by kernel_rfl) (by kernel_rfl) (fun _ _ _ h => h) (Or.inl ⟨by rfl, fun w hSw => ?hyk34⟩) (by assumption) ?rk34
      case hyk34 => (try dsimp only at hSw); go_simp; (try with_reducible rfl)
      (try simp only [Act.put, List.setIfInBounds_toArray, List.set_cons_zero, List.set_cons_succ])
      refine wpAnyH_take (i := 6) (oi := ({ dst := some 87, op := Op.move (Operand.tmp 1), type := 34, pos := "law.go:34", after := #[], guard := none } : Oper)) (v := ?vk36) rfl (by kernel_rfl) (by kernel_rfl) (by kernel_rfl) (fun _ _ _ h => h) (Or.inl ⟨by rfl, fun w hSw => ?hyk36⟩) (by assumption) ?rk36
      case hyk36 => (try dsimp only at hSw); go_simp; (try with_reducible rfl)
      (try simp only [Act.put, List.setIfInBounds_toArray, List.set_cons_zero, List.set_cons_succ])
      refine wpAnyH_take (i := 7) (oi := ({ dst := some 88, op := Op.fieldAddr 39 (Operand.tmp 5) 1, type := 0, pos := "law.go:34", after := #[], guard := none } : Oper)) (v := ?vk37) rfl (by kernel_rfl) (by kernel_rfl) (by kernel_rfl) (fun _ _ _ h => h) (Or.inl ⟨by rfl, fun w hSw => ?hyk37⟩) (by assumption) ?rk37
      case hyk37 => (try dsimp only at hSw); go_simp; (try with_reducible rfl)
      (try simp only [Act.put, List.setIfInBounds_toArray, List.set_cons_zero, List.set_cons_succ])
      refine wpAnyH_take (i := 8) (oi := ({ dst := some 89, op := Op.load 27 (Operand.tmp 88), type := 27, pos := "law.go:34", after := #[{ on := 7, ground := Ground.data }], guard := none } : Oper)) (v := ?vk38) rfl (by kernel_rfl) (by kernel_rfl) (by kernel_rfl) (fun _ _ _ h => h) (Or.inl ⟨by rfl, fun w hSw => ?hyk38⟩) (by assumption) ?rk38
      case hyk38 => (try dsimp only at hSw); go_simp; (try with_reducible rfl)
      (try simp only [Act.put, List.setIfInBounds_toArray, List.set_cons_zero, List.set_cons_succ])
      refine wpAnyH_take (i := 9) (oi := ({ dst := some 90, op := Op.fieldAddr 39 (Operand.tmp 5) 2, type := 0, pos := "law.go:34", after := #[], guard := none } : Oper)) (v := ?vk39) rfl (by kernel_rfl) (by kernel_rfl) (by kernel_rfl) (fun _ _ _ h => h) (Or.inl ⟨by rfl, fun w hSw => ?hyk39⟩) (by assumption) ?rk39
      case hyk39 => (try dsimp only at hSw); go_simp; (try with_reducible rfl)
      (try simp only [Act.put, List.setIfInBounds_toArray, List.set_cons_zero, List.set_cons_succ])
      refine wpAnyH_take (i := 10) (oi := ({ dst := some 91, op := Op.load 28 (Operand.tmp 90), type := 28, pos := "law.go:34", after := #[{ on := 9, ground := Ground.data }], guard := none } : Oper)) (v := ?vk310) rfl (by kernel_rfl) (by kernel_rfl) (by kernel_rfl) (fun _ _ _ h => h) (Or.inl ⟨by rfl, fun w hSw => ?hyk310⟩) (by assumption) ?rk310
      case hyk310 => (try dsimp only at hSw); go_simp; (try with_reducible rfl)
      (try simp only [Act.put, List.setIfInBounds_toArray, List.set_cons_zero, List.set_cons_succ])
      refine wpAnyH_ready (rs := [5]) (by kernel_rfl) (by simp) ?_
      refine AllReadyH.cons (o := ({ dst := some 86, op := Op.call { callee := Callee.value (Operand.func 20), args := #[Operand.tmp 81, Operand.tmp 83, Operand.tmp 85], argTypes := #[32, 27, 28] }, type := 28, pos := "law.go:34", after := #[{ on := 0, ground := Ground.data }, { on := 2, ground := Ground.data }, { on := 4, ground := Ground.data }], guard := none } : Oper)) rfl (fun K hK => ?_) AllReadyH.nil
      go_simp
      (refine (swap_any _ B M L n k0 a0 was is A V CD.out hA hV hn).mono ?_; rintro e w1 ⟨rfl, l1⟩)
      refine hK.out _ _ ?_ (fun hHeld => ?_)
      · exact keep2 hHeld (left_turns l1) XF.out
      clear hK K
      (try simp only [Act.put, List.setIfInBounds_toArray, List.set_cons_zero, List.set_cons_succ])
      refine wpAnyH_ready (rs := [11]) (by kernel_rfl) (by simp) ?_
      refine AllReadyH.cons (o := ({ dst := some 92, op := Op.call { callee := Callee.value (Operand.func 31), args := #[Operand.tmp 87, Operand.tmp 89, Operand.tmp 91], argTypes := #[34, 27, 28] }, type := 28, pos := "law.go:34", after := #[{ on := 6, ground := Ground.data }, { on := 8, ground := Ground.data }, { on := 10, ground := Ground.data }, { on := 5, ground := Ground.chain }], guard := none } : Oper)) rfl (fun K hK => ?_) AllReadyH.nil
      go_simp
      (refine (rswap_any _ base R s L n k0 a0 was is A V (ref_behind NE.out RD.out HM.out HSB.out l1) (Nat.le_trans hbc (left_turns l1).size) hA hn hV).mono ?_; rintro e w2 ⟨rfl, l2⟩)
      refine hK.out _ _ ?_ (fun hHeld => ?_)
      · exact keep2 hHeld (show Turns (fun j => j = R) _ _ from l2.choose_spec.2.2) XR.out
      clear hK K
      (try simp only [Act.put, List.setIfInBounds_toArray, List.set_cons_zero, List.set_cons_succ])
      refine wpAnyH_take (i := 12) (oi := ({ dst := some 93, op := Op.binOp BinOp.eql 28 (Operand.tmp 86) (Operand.tmp 92) 28, type := 4, pos := "law.go:34", after := #[{ on := 5, ground := Ground.data }, { on := 11, ground := Ground.data }], guard := none } : Oper)) (v := ?vk312) rfl (by kernel_rfl) (by kernel_rfl) (by kernel_rfl) (fun _ _ _ h => h) (Or.inl ⟨by rfl, fun w hSw => ?hyk312⟩) (by assumption) ?rk312
      case hyk312 => (try dsimp only at hSw); go_simp; (try with_reducible rfl)
      (try simp only [Act.put, List.setIfInBounds_toArray, List.set_cons_zero, List.set_cons_succ])
      refine wpAnyH_take (i := 13) (oi := ({ dst := some 6, op := Op.assign (Operand.tmp 93), type := 4, pos := "law.go:34", after := #[{ on := 12, ground := Ground.data }, { on := 11, ground := Ground.chain }, { on := 0, ground := Ground.phase }, { on := 1, ground := Ground.phase }, { on := 2, ground := Ground.phase }, { on := 3, ground := Ground.phase }, { on := 4, ground := Ground.phase }, { on := 5, ground := Ground.phase }, { on := 6, ground := Ground.phase }, { on := 7, ground := Ground.phase }, { on := 8, ground := Ground.phase }, { on := 9, ground := Ground.phase }, { on := 10, ground := Ground.phase }, { on := 11, ground := Ground.phase }, { on := 12, ground := Ground.phase }], guard := none } : Oper)) (v := ?vk313) rfl (by kernel_rfl) (by kernel_rfl) (by kernel_rfl) (fun _ _ _ h => h) (Or.inl ⟨by rfl, fun w hSw => ?hyk313⟩) (by assumption) ?rk313
      case hyk313 => (try dsimp only at hSw); go_simp; (try with_reducible rfl)
      (try simp only [Act.put, List.setIfInBounds_toArray, List.set_cons_zero, List.set_cons_succ])
      refine wpAnyH_done (by kernel_rfl) ?_ _
      go_wp2_with fail
      go_ret
      obtain ⟨s', r2, ho, t2⟩ := l2
      have hbo := both_step (w := wc.drew) hbc fb fr NE.out CD.out RD.out HM.out HSB.out (BYT.out.put A _) l1 ⟨s', r2, .inr ho, t2⟩
      exact ⟨by simp, _, _, _, _, _, hbo.1, (HW.out.mono hbase).trans ((Below.refl _ _).drew.trans hbo.2)⟩
    · have hq2 : ((K : Int) % 7) = 4 := by omega
      clear hq
      go_upto_region 15 with (fail)
      refine wp_region_held_drew (S := fun w' => w'.cell? ⟨w.heap.size, 1, none⟩ = some (.int .u32 A) ∧ w'.cell? ⟨w.heap.size, 2, none⟩ = some (.int .u64 V)) (by kernel_rfl) ?_ (fun hHeld => ?_)
      · exact ⟨b1, b2⟩
      refine wpAnyH_take (i := 0) (oi := ({ dst := some 96, op := Op.move (Operand.tmp 0), type := 32, pos := "law.go:36", after := #[], guard := none } : Oper)) (v := ?vk40) rfl (by kernel_rfl) (by kernel_rfl) (by kernel_rfl) (fun _ _ _ h => h) (Or.inl ⟨by rfl, fun w hSw => ?hyk40⟩) (by assumption) ?rk40
      case hyk40 => (try dsimp only at hSw); go_simp; (try with_reducible rfl)
      (try simp only [Act.put, List.setIfInBounds_toArray, List.set_cons_zero, List.set_cons_succ])
      refine wpAnyH_take (i := 1) (oi := ({ dst := some 97, op := Op.fieldAddr 39 (Operand.tmp 5) 1, type := 0, pos := "law.go:36", after := #[], guard := none } : Oper)) (v := ?vk41) rfl (by kernel_rfl) (by kernel_rfl) (by kernel_rfl) (fun _ _ _ h => h) (Or.inl ⟨by rfl, fun w hSw => ?hyk41⟩) (by assumption) ?rk41
      case hyk41 => (try dsimp only at hSw); go_simp; (try with_reducible rfl)
      (try simp only [Act.put, List.setIfInBounds_toArray, List.set_cons_zero, List.set_cons_succ])
      refine wpAnyH_take (i := 2) (oi := ({ dst := some 98, op := Op.load 27 (Operand.tmp 97), type := 27, pos := "law.go:36", after := #[{ on := 1, ground := Ground.data }], guard := none } : Oper)) (v := ?vk42) rfl (by kernel_rfl) (by kernel_rfl) (by kernel_rfl) (fun _ _ _ h => h) (Or.inl ⟨by rfl, fun w hSw => ?hyk42⟩) (by assumption) ?rk42
      case hyk42 => (try dsimp only at hSw); go_simp; (try with_reducible rfl)
      (try simp only [Act.put, List.setIfInBounds_toArray, List.set_cons_zero, List.set_cons_succ])
      refine wpAnyH_take (i := 3) (oi := ({ dst := some 99, op := Op.fieldAddr 39 (Operand.tmp 5) 2, type := 0, pos := "law.go:36", after := #[], guard := none } : Oper)) (v := ?vk43) rfl (by kernel_rfl) (by kernel_rfl) (by kernel_rfl) (fun _ _ _ h => h) (Or.inl ⟨by rfl, fun w hSw => ?hyk43⟩) (by assumption) ?rk43
      case hyk43 => (try dsimp only at hSw); go_simp; (try with_reducible rfl)
      (try simp only [Act.put, List.setIfInBounds_toArray, List.set_cons_zero, List.set_cons_succ])
      refine wpAnyH_take (i := 4) (oi := ({ dst := some 100, op := Op.load 28 (Operand.tmp 99), type := 28, pos := "law.go:36", after := #[{ on := 3, ground := Ground.data }], guard := none } : Oper)) (v := ?vk44) rfl (by kernel_rfl) (by kernel_rfl) (by kernel_rfl) (fun _ _ _ h => h) (Or.inl ⟨by rfl, fun w hSw => ?hyk44⟩) (by assumption) ?rk44
      case hyk44 => (try dsimp only at hSw); go_simp; (try with_reducible rfl)
      (try simp only [Act.put, List.setIfInBounds_toArray, List.set_cons_zero, List.set_cons_succ])
      refine wpAnyH_take (i := 6) (oi := ({ dst := some 102, op := Op.move (Operand.tmp 1), type := 34, pos := "law.go:36", after := #[], guard := none } : Oper)) (v := ?vk46) rfl (by kernel_rfl) (by kernel_rfl) (by kernel_rfl) (fun _ _ _ h => h) (Or.inl ⟨by rfl, fun w hSw => ?hyk46⟩) (by assumption) ?rk46
      case hyk46 => (try dsimp only at hSw); go_simp; (try with_reducible rfl)
      (try simp only [Act.put, List.setIfInBounds_toArray, List.set_cons_zero, List.set_cons_succ])
      refine wpAnyH_take (i := 7) (oi := ({ dst := some 103, op := Op.fieldAddr 39 (Operand.tmp 5) 1, type := 0, pos := "law.go:36", after := #[], guard := none } : Oper)) (v := ?vk47) rfl (by kernel_rfl) (by kernel_rfl) (by kernel_rfl) (fun _ _ _ h => h) (Or.inl ⟨by rfl, fun w hSw => ?hyk47⟩) (by assumption) ?rk47
      case hyk47 => (try dsimp only at hSw); go_simp; (try with_reducible rfl)
      (try simp only [Act.put, List.setIfInBounds_toArray, List.set_cons_zero, List.set_cons_succ])
      refine wpAnyH_take (i := 8) (oi := ({ dst := some 104, op := Op.load 27 (Operand.tmp 103), type := 27, pos := "law.go:36", after := #[{ on := 7, ground := Ground.data }], guard := none } : Oper)) (v := ?vk48) rfl (by kernel_rfl) (by kernel_rfl) (by kernel_rfl) (fun _ _ _ h => h) (Or.inl ⟨by rfl, fun w hSw => ?hyk48⟩) (by assumption) ?rk48
      case hyk48 => (try dsimp only at hSw); go_simp; (try with_reducible rfl)
      (try simp only [Act.put, List.setIfInBounds_toArray, List.set_cons_zero, List.set_cons_succ])
      refine wpAnyH_take (i := 9) (oi := ({ dst := some 105, op := Op.fieldAddr 39 (Operand.tmp 5) 2, type := 0, pos := "law.go:36", after := #[], guard := none } : Oper)) (v := ?vk49) rfl (by kernel_rfl) (by kernel_rfl) (by kernel_rfl) (fun _ _ _ h => h) (Or.inl ⟨by rfl, fun w hSw => ?hyk49⟩) (by assumption) ?rk49
      case hyk49 => (try dsimp only at hSw); go_simp; (try with_reducible rfl)
      (try simp only [Act.put, List.setIfInBounds_toArray, List.set_cons_zero, List.set_cons_succ])
      refine wpAnyH_take (i := 10) (oi := ({ dst := some 106, op := Op.load 28 (Operand.tmp 105), type := 28, pos := "law.go:36", after := #[{ on := 9, ground := Ground.data }], guard := none } : Oper)) (v := ?vk410) rfl (by kernel_rfl) (by kernel_rfl) (by kernel_rfl) (fun _ _ _ h => h) (Or.inl ⟨by rfl, fun w hSw => ?hyk410⟩) (by assumption) ?rk410
      case hyk410 => (try dsimp only at hSw); go_simp; (try with_reducible rfl)
      (try simp only [Act.put, List.setIfInBounds_toArray, List.set_cons_zero, List.set_cons_succ])
      refine wpAnyH_ready (rs := [5]) (by kernel_rfl) (by simp) ?_
      refine AllReadyH.cons (o := ({ dst := some 101, op := Op.call { callee := Callee.value (Operand.func 21), args := #[Operand.tmp 96, Operand.tmp 98, Operand.tmp 100], argTypes := #[32, 27, 28] }, type := 28, pos := "law.go:36", after := #[{ on := 0, ground := Ground.data }, { on := 2, ground := Ground.data }, { on := 4, ground := Ground.data }], guard := none } : Oper)) rfl (fun K hK => ?_) AllReadyH.nil
      go_simp
      (refine (add_any _ B M L n k0 a0 was is A V CD.out hA hV hn).mono ?_; rintro e w1 ⟨rfl, l1⟩)
      refine hK.out _ _ ?_ (fun hHeld => ?_)
      · exact keep2 hHeld (left_turns l1) XF.out
      clear hK K
      (try simp only [Act.put, List.setIfInBounds_toArray, List.set_cons_zero, List.set_cons_succ])
      refine wpAnyH_ready (rs := [11]) (by kernel_rfl) (by simp) ?_
      refine AllReadyH.cons (o := ({ dst := some 107, op := Op.call { callee := Callee.value (Operand.func 32), args := #[Operand.tmp 102, Operand.tmp 104, Operand.tmp 106], argTypes := #[34, 27, 28] }, type := 28, pos := "law.go:36", after := #[{ on := 6, ground := Ground.data }, { on := 8, ground := Ground.data }, { on := 10, ground := Ground.data }, { on := 5, ground := Ground.chain }], guard := none } : Oper)) rfl (fun K hK => ?_) AllReadyH.nil
      go_simp
      (refine (radd_any _ base R s L n k0 a0 was is A V (ref_behind NE.out RD.out HM.out HSB.out l1) (Nat.le_trans hbc (left_turns l1).size) hA hn hV).mono ?_; rintro e w2 ⟨rfl, l2⟩)
      refine hK.out _ _ ?_ (fun hHeld => ?_)
      · exact keep2 hHeld (show Turns (fun j => j = R) _ _ from l2.choose_spec.2.2) XR.out
      clear hK K
      (try simp only [Act.put, List.setIfInBounds_toArray, List.set_cons_zero, List.set_cons_succ])
      refine wpAnyH_take (i := 12) (oi := ({ dst := some 108, op := Op.binOp BinOp.eql 28 (Operand.tmp 101) (Operand.tmp 107) 28, type := 4, pos := "law.go:36", after := #[{ on := 5, ground := Ground.data }, { on := 11, ground := Ground.data }], guard := none } : Oper)) (v := ?vk412) rfl (by kernel_rfl) (by kernel_rfl) (by kernel_rfl) (fun _ _ _ h => h) (Or.inl ⟨by rfl, fun w hSw => ?hyk412⟩) (by assumption) ?rk412
      case hyk412 => (try dsimp only at hSw); go_simp; (try with_reducible rfl)
      (try simp only [Act.put, List.setIfInBounds_toArray, List.set_cons_zero, List.set_cons_succ])
      refine wpAnyH_take (i := 13) (oi := ({ dst := some 6, op := Op.assign (Operand.tmp 108), type := 4, pos := "law.go:36", after := #[{ on := 12, ground := Ground.data }, { on := 11, ground := Ground.chain }, { on := 0, ground := Ground.phase }, { on := 1, ground := Ground.phase }, { on := 2, ground := Ground.phase }, { on := 3, ground := Ground.phase }, { on := 4, ground := Ground.phase }, { on := 5, ground := Ground.phase }, { on := 6, ground := Ground.phase }, { on := 7, ground := Ground.phase }, { on := 8, ground := Ground.phase }, { on := 9, ground := Ground.phase }, { on := 10, ground := Ground.phase }, { on := 11, ground := Ground.phase }, { on := 12, ground := Ground.phase }], guard := none } : Oper)) (v := ?vk413) rfl (by kernel_rfl) (by kernel_rfl) (by kernel_rfl) (fun _ _ _ h => h) (Or.inl ⟨by rfl, fun w hSw => ?hyk413⟩) (by assumption) ?rk413
      case hyk413 => (try dsimp only at hSw); go_simp; (try with_reducible rfl)
      (try simp only [Act.put, List.setIfInBounds_toArray, List.set_cons_zero, List.set_cons_succ])
      refine wpAnyH_done (by kernel_rfl) ?_ _
      go_wp2_with fail
      go_ret
      obtain ⟨s', r2, ho, t2⟩ := l2
      have hbo := both_step (w := wc.drew) hbc fb fr NE.out CD.out RD.out HM.out HSB.out (BYT.out.put A _) l1 ⟨s', r2, .inr ho, t2⟩
      exact ⟨by simp, _, _, _, _, _, hbo.1, (HW.out.mono hbase).trans ((Below.refl _ _).drew.trans hbo.2)⟩
    · have hq2 : ((K : Int) % 7) = 5 := by omega
      clear hq
      go_upto_region 17 with (fail)
      refine wp_region_held_drew (S := fun w' => w'.cell? ⟨w.heap.size, 1, none⟩ = some (.int .u32 A) ∧ w'.cell? ⟨w.heap.size, 2, none⟩ = some (.int .u64 V)) (by kernel_rfl) ?_ (fun hHeld => ?_)
      · exact ⟨b1, b2⟩
      refine wpAnyH_take (i := 0) (oi := ({ dst := some 111, op := Op.move (Operand.tmp 0), type := 32, pos := "law.go:38", after := #[], guard := none } : Oper)) (v := ?vk50) rfl (by kernel_rfl) (by kernel_rfl) (by kernel_rfl) (fun _ _ _ h => h) (Or.inl ⟨by rfl, fun w hSw => ?hyk50⟩) (by assumption) ?rk50
      case hyk50 => (try dsimp only at hSw); go_simp; (try with_reducible rfl)
      (try simp only [Act.put, List.setIfInBounds_toArray, List.set_cons_zero, List.set_cons_succ])
      refine wpAnyH_take (i := 1) (oi := ({ dst := some 112, op := Op.fieldAddr 39 (Operand.tmp 5) 1, type := 0, pos := "law.go:38", after := #[], guard := none } : Oper)) (v := ?vk51) rfl (by kernel_rfl) (by kernel_rfl) (by kernel_rfl) (fun _ _ _ h => h) (Or.inl ⟨by rfl, fun w hSw => ?hyk51⟩) (by assumption) ?rk51
      case hyk51 => (try dsimp only at hSw); go_simp; (try with_reducible rfl)
      (try simp only [Act.put, List.setIfInBounds_toArray, List.set_cons_zero, List.set_cons_succ])
      refine wpAnyH_take (i := 2) (oi := ({ dst := some 113, op := Op.load 27 (Operand.tmp 112), type := 27, pos := "law.go:38", after := #[{ on := 1, ground := Ground.data }], guard := none } : Oper)) (v := ?vk52) rfl (by kernel_rfl) (by kernel_rfl) (by kernel_rfl) (fun _ _ _ h => h) (Or.inl ⟨by rfl, fun w hSw => ?hyk52⟩) (by assumption) ?rk52
      case hyk52 => (try dsimp only at hSw); go_simp; (try with_reducible rfl)
      (try simp only [Act.put, List.setIfInBounds_toArray, List.set_cons_zero, List.set_cons_succ])
      refine wpAnyH_take (i := 3) (oi := ({ dst := some 114, op := Op.fieldAddr 39 (Operand.tmp 5) 2, type := 0, pos := "law.go:38", after := #[], guard := none } : Oper)) (v := ?vk53) rfl (by kernel_rfl) (by kernel_rfl) (by kernel_rfl) (fun _ _ _ h => h) (Or.inl ⟨by rfl, fun w hSw => ?hyk53⟩) (by assumption) ?rk53
      case hyk53 => (try dsimp only at hSw); go_simp; (try with_reducible rfl)
      (try simp only [Act.put, List.setIfInBounds_toArray, List.set_cons_zero, List.set_cons_succ])
      refine wpAnyH_take (i := 4) (oi := ({ dst := some 115, op := Op.load 28 (Operand.tmp 114), type := 28, pos := "law.go:38", after := #[{ on := 3, ground := Ground.data }], guard := none } : Oper)) (v := ?vk54) rfl (by kernel_rfl) (by kernel_rfl) (by kernel_rfl) (fun _ _ _ h => h) (Or.inl ⟨by rfl, fun w hSw => ?hyk54⟩) (by assumption) ?rk54
      case hyk54 => (try dsimp only at hSw); go_simp; (try with_reducible rfl)
      (try simp only [Act.put, List.setIfInBounds_toArray, List.set_cons_zero, List.set_cons_succ])
      refine wpAnyH_take (i := 6) (oi := ({ dst := some 117, op := Op.move (Operand.tmp 1), type := 34, pos := "law.go:38", after := #[], guard := none } : Oper)) (v := ?vk56) rfl (by kernel_rfl) (by kernel_rfl) (by kernel_rfl) (fun _ _ _ h => h) (Or.inl ⟨by rfl, fun w hSw => ?hyk56⟩) (by assumption) ?rk56
      case hyk56 => (try dsimp only at hSw); go_simp; (try with_reducible rfl)
      (try simp only [Act.put, List.setIfInBounds_toArray, List.set_cons_zero, List.set_cons_succ])
      refine wpAnyH_take (i := 7) (oi := ({ dst := some 118, op := Op.fieldAddr 39 (Operand.tmp 5) 1, type := 0, pos := "law.go:38", after := #[], guard := none } : Oper)) (v := ?vk57) rfl (by kernel_rfl) (by kernel_rfl) (by kernel_rfl) (fun _ _ _ h => h) (Or.inl ⟨by rfl, fun w hSw => ?hyk57⟩) (by assumption) ?rk57
      case hyk57 => (try dsimp only at hSw); go_simp; (try with_reducible rfl)
      (try simp only [Act.put, List.setIfInBounds_toArray, List.set_cons_zero, List.set_cons_succ])
      refine wpAnyH_take (i := 8) (oi := ({ dst := some 119, op := Op.load 27 (Operand.tmp 118), type := 27, pos := "law.go:38", after := #[{ on := 7, ground := Ground.data }], guard := none } : Oper)) (v := ?vk58) rfl (by kernel_rfl) (by kernel_rfl) (by kernel_rfl) (fun _ _ _ h => h) (Or.inl ⟨by rfl, fun w hSw => ?hyk58⟩) (by assumption) ?rk58
      case hyk58 => (try dsimp only at hSw); go_simp; (try with_reducible rfl)
      (try simp only [Act.put, List.setIfInBounds_toArray, List.set_cons_zero, List.set_cons_succ])
      refine wpAnyH_take (i := 9) (oi := ({ dst := some 120, op := Op.fieldAddr 39 (Operand.tmp 5) 2, type := 0, pos := "law.go:38", after := #[], guard := none } : Oper)) (v := ?vk59) rfl (by kernel_rfl) (by kernel_rfl) (by kernel_rfl) (fun _ _ _ h => h) (Or.inl ⟨by rfl, fun w hSw => ?hyk59⟩) (by assumption) ?rk59
      case hyk59 => (try dsimp only at hSw); go_simp; (try with_reducible rfl)
      (try simp only [Act.put, List.setIfInBounds_toArray, List.set_cons_zero, List.set_cons_succ])
      refine wpAnyH_take (i := 10) (oi := ({ dst := some 121, op := Op.load 28 (Operand.tmp 120), type := 28, pos := "law.go:38", after := #[{ on := 9, ground := Ground.data }], guard := none } : Oper)) (v := ?vk510) rfl (by kernel_rfl) (by kernel_rfl) (by kernel_rfl) (fun _ _ _ h => h) (Or.inl ⟨by rfl, fun w hSw => ?hyk510⟩) (by assumption) ?rk510
      case hyk510 => (try dsimp only at hSw); go_simp; (try with_reducible rfl)
      (try simp only [Act.put, List.setIfInBounds_toArray, List.set_cons_zero, List.set_cons_succ])
      refine wpAnyH_ready (rs := [5]) (by kernel_rfl) (by simp) ?_
      refine AllReadyH.cons (o := ({ dst := some 116, op := Op.call { callee := Callee.value (Operand.func 22), args := #[Operand.tmp 111, Operand.tmp 113, Operand.tmp 115], argTypes := #[32, 27, 28] }, type := 28, pos := "law.go:38", after := #[{ on := 0, ground := Ground.data }, { on := 2, ground := Ground.data }, { on := 4, ground := Ground.data }], guard := none } : Oper)) rfl (fun K hK => ?_) AllReadyH.nil
      go_simp
      (refine (and_any _ B M L n k0 a0 was is A V CD.out hA hV hn).mono ?_; rintro e w1 ⟨rfl, l1⟩)
      refine hK.out _ _ ?_ (fun hHeld => ?_)
      · exact keep2 hHeld (left_turns l1) XF.out
      clear hK K
      (try simp only [Act.put, List.setIfInBounds_toArray, List.set_cons_zero, List.set_cons_succ])
      refine wpAnyH_ready (rs := [11]) (by kernel_rfl) (by simp) ?_
      refine AllReadyH.cons (o := ({ dst := some 122, op := Op.call { callee := Callee.value (Operand.func 33), args := #[Operand.tmp 117, Operand.tmp 119, Operand.tmp 121], argTypes := #[34, 27, 28] }, type := 28, pos := "law.go:38", after := #[{ on := 6, ground := Ground.data }, { on := 8, ground := Ground.data }, { on := 10, ground := Ground.data }, { on := 5, ground := Ground.chain }], guard := none } : Oper)) rfl (fun K hK => ?_) AllReadyH.nil
      go_simp
      (refine (rand_any _ base R s L n k0 a0 was is A V (ref_behind NE.out RD.out HM.out HSB.out l1) (Nat.le_trans hbc (left_turns l1).size) hA hn hV).mono ?_; rintro e w2 ⟨rfl, l2⟩)
      refine hK.out _ _ ?_ (fun hHeld => ?_)
      · exact keep2 hHeld (show Turns (fun j => j = R) _ _ from l2.choose_spec.2.2) XR.out
      clear hK K
      (try simp only [Act.put, List.setIfInBounds_toArray, List.set_cons_zero, List.set_cons_succ])
      refine wpAnyH_take (i := 12) (oi := ({ dst := some 123, op := Op.binOp BinOp.eql 28 (Operand.tmp 116) (Operand.tmp 122) 28, type := 4, pos := "law.go:38", after := #[{ on := 5, ground := Ground.data }, { on := 11, ground := Ground.data }], guard := none } : Oper)) (v := ?vk512) rfl (by kernel_rfl) (by kernel_rfl) (by kernel_rfl) (fun _ _ _ h => h) (Or.inl ⟨by rfl, fun w hSw => ?hyk512⟩) (by assumption) ?rk512
      case hyk512 => (try dsimp only at hSw); go_simp; (try with_reducible rfl)
      (try simp only [Act.put, List.setIfInBounds_toArray, List.set_cons_zero, List.set_cons_succ])
      refine wpAnyH_take (i := 13) (oi := ({ dst := some 6, op := Op.assign (Operand.tmp 123), type := 4, pos := "law.go:38", after := #[{ on := 12, ground := Ground.data }, { on := 11, ground := Ground.chain }, { on := 0, ground := Ground.phase }, { on := 1, ground := Ground.phase }, { on := 2, ground := Ground.phase }, { on := 3, ground := Ground.phase }, { on := 4, ground := Ground.phase }, { on := 5, ground := Ground.phase }, { on := 6, ground := Ground.phase }, { on := 7, ground := Ground.phase }, { on := 8, ground := Ground.phase }, { on := 9, ground := Ground.phase }, { on := 10, ground := Ground.phase }, { on := 11, ground := Ground.phase }, { on := 12, ground := Ground.phase }], guard := none } : Oper)) (v := ?vk513) rfl (by kernel_rfl) (by kernel_rfl) (by kernel_rfl) (fun _ _ _ h => h) (Or.inl ⟨by rfl, fun w hSw => ?hyk513⟩) (by assumption) ?rk513
      case hyk513 => (try dsimp only at hSw); go_simp; (try with_reducible rfl)
      (try simp only [Act.put, List.setIfInBounds_toArray, List.set_cons_zero, List.set_cons_succ])
      refine wpAnyH_done (by kernel_rfl) ?_ _
      go_wp2_with fail
      go_ret
      obtain ⟨s', r2, ho, t2⟩ := l2
      have hbo := both_step (w := wc.drew) hbc fb fr NE.out CD.out RD.out HM.out HSB.out (BYT.out.put A _) l1 ⟨s', r2, .inr ho, t2⟩
      exact ⟨by simp, _, _, _, _, _, hbo.1, (HW.out.mono hbase).trans ((Below.refl _ _).drew.trans hbo.2)⟩
    · have hq2 : ((K : Int) % 7) = 6 := by omega
      clear hq
      go_upto_region 18 with (fail)
      refine wp_region_held_drew (S := fun w' => w'.cell? ⟨w.heap.size, 1, none⟩ = some (.int .u32 A) ∧ w'.cell? ⟨w.heap.size, 2, none⟩ = some (.int .u64 V)) (by kernel_rfl) ?_ (fun hHeld => ?_)
      · exact ⟨b1, b2⟩
      refine wpAnyH_take (i := 0) (oi := ({ dst := some 124, op := Op.move (Operand.tmp 0), type := 32, pos := "law.go:40", after := #[], guard := none } : Oper)) (v := ?vk60) rfl (by kernel_rfl) (by kernel_rfl) (by kernel_rfl) (fun _ _ _ h => h) (Or.inl ⟨by rfl, fun w hSw => ?hyk60⟩) (by assumption) ?rk60
      case hyk60 => (try dsimp only at hSw); go_simp; (try with_reducible rfl)
      (try simp only [Act.put, List.setIfInBounds_toArray, List.set_cons_zero, List.set_cons_succ])
      refine wpAnyH_take (i := 1) (oi := ({ dst := some 125, op := Op.fieldAddr 39 (Operand.tmp 5) 1, type := 0, pos := "law.go:40", after := #[], guard := none } : Oper)) (v := ?vk61) rfl (by kernel_rfl) (by kernel_rfl) (by kernel_rfl) (fun _ _ _ h => h) (Or.inl ⟨by rfl, fun w hSw => ?hyk61⟩) (by assumption) ?rk61
      case hyk61 => (try dsimp only at hSw); go_simp; (try with_reducible rfl)
      (try simp only [Act.put, List.setIfInBounds_toArray, List.set_cons_zero, List.set_cons_succ])
      refine wpAnyH_take (i := 2) (oi := ({ dst := some 126, op := Op.load 27 (Operand.tmp 125), type := 27, pos := "law.go:40", after := #[{ on := 1, ground := Ground.data }], guard := none } : Oper)) (v := ?vk62) rfl (by kernel_rfl) (by kernel_rfl) (by kernel_rfl) (fun _ _ _ h => h) (Or.inl ⟨by rfl, fun w hSw => ?hyk62⟩) (by assumption) ?rk62
      case hyk62 => (try dsimp only at hSw); go_simp; (try with_reducible rfl)
      (try simp only [Act.put, List.setIfInBounds_toArray, List.set_cons_zero, List.set_cons_succ])
      refine wpAnyH_take (i := 3) (oi := ({ dst := some 127, op := Op.fieldAddr 39 (Operand.tmp 5) 2, type := 0, pos := "law.go:40", after := #[], guard := none } : Oper)) (v := ?vk63) rfl (by kernel_rfl) (by kernel_rfl) (by kernel_rfl) (fun _ _ _ h => h) (Or.inl ⟨by rfl, fun w hSw => ?hyk63⟩) (by assumption) ?rk63
      case hyk63 => (try dsimp only at hSw); go_simp; (try with_reducible rfl)
      (try simp only [Act.put, List.setIfInBounds_toArray, List.set_cons_zero, List.set_cons_succ])
      refine wpAnyH_take (i := 4) (oi := ({ dst := some 128, op := Op.load 28 (Operand.tmp 127), type := 28, pos := "law.go:40", after := #[{ on := 3, ground := Ground.data }], guard := none } : Oper)) (v := ?vk64) rfl (by kernel_rfl) (by kernel_rfl) (by kernel_rfl) (fun _ _ _ h => h) (Or.inl ⟨by rfl, fun w hSw => ?hyk64⟩) (by assumption) ?rk64
      case hyk64 => (try dsimp only at hSw); go_simp; (try with_reducible rfl)
      (try simp only [Act.put, List.setIfInBounds_toArray, List.set_cons_zero, List.set_cons_succ])
      refine wpAnyH_take (i := 6) (oi := ({ dst := some 130, op := Op.move (Operand.tmp 1), type := 34, pos := "law.go:40", after := #[], guard := none } : Oper)) (v := ?vk66) rfl (by kernel_rfl) (by kernel_rfl) (by kernel_rfl) (fun _ _ _ h => h) (Or.inl ⟨by rfl, fun w hSw => ?hyk66⟩) (by assumption) ?rk66
      case hyk66 => (try dsimp only at hSw); go_simp; (try with_reducible rfl)
      (try simp only [Act.put, List.setIfInBounds_toArray, List.set_cons_zero, List.set_cons_succ])
      refine wpAnyH_take (i := 7) (oi := ({ dst := some 131, op := Op.fieldAddr 39 (Operand.tmp 5) 1, type := 0, pos := "law.go:40", after := #[], guard := none } : Oper)) (v := ?vk67) rfl (by kernel_rfl) (by kernel_rfl) (by kernel_rfl) (fun _ _ _ h => h) (Or.inl ⟨by rfl, fun w hSw => ?hyk67⟩) (by assumption) ?rk67
      case hyk67 => (try dsimp only at hSw); go_simp; (try with_reducible rfl)
      (try simp only [Act.put, List.setIfInBounds_toArray, List.set_cons_zero, List.set_cons_succ])
      refine wpAnyH_take (i := 8) (oi := ({ dst := some 132, op := Op.load 27 (Operand.tmp 131), type := 27, pos := "law.go:40", after := #[{ on := 7, ground := Ground.data }], guard := none } : Oper)) (v := ?vk68) rfl (by kernel_rfl) (by kernel_rfl) (by kernel_rfl) (fun _ _ _ h => h) (Or.inl ⟨by rfl, fun w hSw => ?hyk68⟩) (by assumption) ?rk68
      case hyk68 => (try dsimp only at hSw); go_simp; (try with_reducible rfl)
      (try simp only [Act.put, List.setIfInBounds_toArray, List.set_cons_zero, List.set_cons_succ])
      refine wpAnyH_take (i := 9) (oi := ({ dst := some 133, op := Op.fieldAddr 39 (Operand.tmp 5) 2, type := 0, pos := "law.go:40", after := #[], guard := none } : Oper)) (v := ?vk69) rfl (by kernel_rfl) (by kernel_rfl) (by kernel_rfl) (fun _ _ _ h => h) (Or.inl ⟨by rfl, fun w hSw => ?hyk69⟩) (by assumption) ?rk69
      case hyk69 => (try dsimp only at hSw); go_simp; (try with_reducible rfl)
      (try simp only [Act.put, List.setIfInBounds_toArray, List.set_cons_zero, List.set_cons_succ])
      refine wpAnyH_take (i := 10) (oi := ({ dst := some 134, op := Op.load 28 (Operand.tmp 133), type := 28, pos := "law.go:40", after := #[{ on := 9, ground := Ground.data }], guard := none } : Oper)) (v := ?vk610) rfl (by kernel_rfl) (by kernel_rfl) (by kernel_rfl) (fun _ _ _ h => h) (Or.inl ⟨by rfl, fun w hSw => ?hyk610⟩) (by assumption) ?rk610
      case hyk610 => (try dsimp only at hSw); go_simp; (try with_reducible rfl)
      (try simp only [Act.put, List.setIfInBounds_toArray, List.set_cons_zero, List.set_cons_succ])
      refine wpAnyH_ready (rs := [5]) (by kernel_rfl) (by simp) ?_
      refine AllReadyH.cons (o := ({ dst := some 129, op := Op.call { callee := Callee.value (Operand.func 23), args := #[Operand.tmp 124, Operand.tmp 126, Operand.tmp 128], argTypes := #[32, 27, 28] }, type := 28, pos := "law.go:40", after := #[{ on := 0, ground := Ground.data }, { on := 2, ground := Ground.data }, { on := 4, ground := Ground.data }], guard := none } : Oper)) rfl (fun K hK => ?_) AllReadyH.nil
      go_simp
      (refine (or_any _ B M L n k0 a0 was is A V CD.out hA hV hn).mono ?_; rintro e w1 ⟨rfl, l1⟩)
      refine hK.out _ _ ?_ (fun hHeld => ?_)
      · exact keep2 hHeld (left_turns l1) XF.out
      clear hK K
      (try simp only [Act.put, List.setIfInBounds_toArray, List.set_cons_zero, List.set_cons_succ])
      refine wpAnyH_ready (rs := [11]) (by kernel_rfl) (by simp) ?_
      refine AllReadyH.cons (o := ({ dst := some 135, op := Op.call { callee := Callee.value (Operand.func 34), args := #[Operand.tmp 130, Operand.tmp 132, Operand.tmp 134], argTypes := #[34, 27, 28] }, type := 28, pos := "law.go:40", after := #[{ on := 6, ground := Ground.data }, { on := 8, ground := Ground.data }, { on := 10, ground := Ground.data }, { on := 5, ground := Ground.chain }], guard := none } : Oper)) rfl (fun K hK => ?_) AllReadyH.nil
      go_simp
      (refine (ror_any _ base R s L n k0 a0 was is A V (ref_behind NE.out RD.out HM.out HSB.out l1) (Nat.le_trans hbc (left_turns l1).size) hA hn hV).mono ?_; rintro e w2 ⟨rfl, l2⟩)
      refine hK.out _ _ ?_ (fun hHeld => ?_)
      · exact keep2 hHeld (show Turns (fun j => j = R) _ _ from l2.choose_spec.2.2) XR.out
      clear hK K
      (try simp only [Act.put, List.setIfInBounds_toArray, List.set_cons_zero, List.set_cons_succ])
      refine wpAnyH_take (i := 12) (oi := ({ dst := some 136, op := Op.binOp BinOp.eql 28 (Operand.tmp 129) (Operand.tmp 135) 28, type := 4, pos := "law.go:40", after := #[{ on := 5, ground := Ground.data }, { on := 11, ground := Ground.data }], guard := none } : Oper)) (v := ?vk612) rfl (by kernel_rfl) (by kernel_rfl) (by kernel_rfl) (fun _ _ _ h => h) (Or.inl ⟨by rfl, fun w hSw => ?hyk612⟩) (by assumption) ?rk612
      case hyk612 => (try dsimp only at hSw); go_simp; (try with_reducible rfl)
      (try simp only [Act.put, List.setIfInBounds_toArray, List.set_cons_zero, List.set_cons_succ])
      refine wpAnyH_take (i := 13) (oi := ({ dst := some 6, op := Op.assign (Operand.tmp 136), type := 4, pos := "law.go:40", after := #[{ on := 12, ground := Ground.data }, { on := 11, ground := Ground.chain }, { on := 0, ground := Ground.phase }, { on := 1, ground := Ground.phase }, { on := 2, ground := Ground.phase }, { on := 3, ground := Ground.phase }, { on := 4, ground := Ground.phase }, { on := 5, ground := Ground.phase }, { on := 6, ground := Ground.phase }, { on := 7, ground := Ground.phase }, { on := 8, ground := Ground.phase }, { on := 9, ground := Ground.phase }, { on := 10, ground := Ground.phase }, { on := 11, ground := Ground.phase }, { on := 12, ground := Ground.phase }], guard := none } : Oper)) (v := ?vk613) rfl (by kernel_rfl) (by kernel_rfl) (by kernel_rfl) (fun _ _ _ h => h) (Or.inl ⟨by rfl, fun w hSw => ?hyk613⟩) (by assumption) ?rk613
      case hyk613 => (try dsimp only at hSw); go_simp; (try with_reducible rfl)
      (try simp only [Act.put, List.setIfInBounds_toArray, List.set_cons_zero, List.set_cons_succ])
      refine wpAnyH_done (by kernel_rfl) ?_ _
      go_wp2_with fail
      go_ret
      obtain ⟨s', r2, ho, t2⟩ := l2
      have hbo := both_step (w := wc.drew) hbc fb fr NE.out CD.out RD.out HM.out HSB.out (BYT.out.put A _) l1 ⟨s', r2, .inr ho, t2⟩
      exact ⟨by simp, _, _, _, _, _, hbo.1, (HW.out.mono hbase).trans ((Below.refl _ _).drew.trans hbo.2)⟩
end Go.Proofs.Ytikjlmlbbjbcmaa
