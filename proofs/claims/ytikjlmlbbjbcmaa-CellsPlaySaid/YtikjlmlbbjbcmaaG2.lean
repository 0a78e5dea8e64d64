/- The reference's New. -/
import Derived.Test.YtikjlmlbbjbcmaaG1
namespace Go.Proofs.Ytikjlmlbbjbcmaa
open Go.RowKit Go.Maps

def RNew (w : World) (L : LL) (e : Ending) (w' : World) : Prop := ∃ R s, e = .returned (Pt R) ∧ w.heap.size ≤ R ∧ RefAt w' w.heap.size R s L 0 0 0 0 0 ∧ Below w.heap.size w w'
set_option maxHeartbeats 4000000 in
set_option maxRecDepth 100000 in
theorem rnew_any (p : Option Addr) (n c : Nat) (A V : Nat → Nat) (hn : n ≤ 100) (hok : WOk n A V) (w : World) (hin : WIn w w.heap.size p n A V) :
    Calls Try.prog 9 #[.slice p n c] w (RNew w (newL A V n)) := by
  have s0 : RefAt (w.alloc (.cells #[.slice none 0 0, .int .i64 0, .int .u8 0, .int .u32 0, .int .u64 0, .int .u64 0] 56)) w.heap.size w.heap.size (.slice none 0 0) [] 0 0 0 0 0 := ⟨good_nil, heap_alloc_new w _, World.ownsRow_nil _ _ _ _, by simp [Value.ownBlock]⟩
  have hb0 : Below w.heap.size w (w.alloc (.cells #[.slice none 0 0, .int .i64 0, .int .u8 0, .int .u32 0, .int .u64 0, .int .u64 0] 56)) := (Below.refl _ _).alloc (Nat.le_refl _) _
  have S0 := Lib.hid s0; have B0 := Lib.hid hb0; have HIN := Lib.hid hin; have HOK := Lib.hid hok
  clear s0 hb0 hin hok
  go_enter Try.func9, Try.ntmps9
  go_wp2_with fail
  go_loopg [4] n (fun q s4 wx => ∃ (k : Nat) (s : Value) (kd a was is : Nat), k ≤ n ∧ q = n - k ∧ s4 = .int .i64 k ∧ RefAt wx w.heap.size w.heap.size s (newL A V k) k kd a was is ∧ Below w.heap.size w wx)
  case atStart => exact ⟨0, _, 0, 0, 0, 0, by omega, rfl, rfl, S0.out, B0.out⟩
  case round =>
    obtain ⟨k, s, kd, a, was, is, hk, rfl, rfl, hst, hb⟩ := hrel
    have HST := Lib.hid hst; have HB := Lib.hid hb
    clear hst
    by_cases hkn : k < n
    · obtain ⟨lb, lo, rfl, hlb, hc⟩ := HIN.out.below hb (Nat.le_refl _) (by omega)
      obtain ⟨d0, d1⟩ := hc k hkn
      obtain ⟨hA, hV⟩ := HOK.out k hkn
      have hsz := hb.size
      clear hc hb
      have hL : newL A V (k + 1) = putL (newL A V k) (A k) (bring (A k) (V k)) := rfl
      have HL := Lib.hid hL
      have RD := Lib.hid (HST.out.kept (turns_drew (fun _ => False) _) (fun h => h) (fun _ _ h => h))
      have hlbR : lb ≠ w.heap.size := by omega
      have LBR := Lib.hid hlbR
      clear hL hlbR
      go_upto_region 5 with (fail)
      refine wp_region_held_drew (S := fun w' => w'.cell? ⟨lb, lo + k * 2, none⟩ = some (.int .u32 (A k)) ∧ w'.cell? ⟨lb, lo + k * 2 + 1, none⟩ = some (.int .u64 (V k))) (by kernel_rfl) ?_ (fun hHeld => ?_)
      · exact ⟨d0, d1⟩
      refine wpAnyH_take (i := 0) (oi := ({ dst := some 13, op := Op.move (Operand.tmp 3), type := 34, pos := "ref.go:23", after := #[], guard := none } : Oper)) (v := ?vm0) rfl (by kernel_rfl) (by kernel_rfl) (by kernel_rfl) (fun _ _ _ h => h) (Or.inl ⟨by rfl, fun w hSw => ?hym0⟩) (by assumption) ?rm0
      case hym0 => (try dsimp only at hSw); go_simp; (try with_reducible rfl)
      (try simp only [Act.put, List.setIfInBounds_toArray, List.set_cons_zero, List.set_cons_succ])
      refine wpAnyH_take (i := 1) (oi := ({ dst := some 14, op := Op.move (Operand.tmp 0), type := 25, pos := "ref.go:23", after := #[], guard := none } : Oper)) (v := ?vm1) rfl (by kernel_rfl) (by kernel_rfl) (by kernel_rfl) (fun _ _ _ h => h) (Or.inl ⟨by rfl, fun w hSw => ?hym1⟩) (by assumption) ?rm1
      case hym1 => (try dsimp only at hSw); go_simp; (try with_reducible rfl)
      (try simp only [Act.put, List.setIfInBounds_toArray, List.set_cons_zero, List.set_cons_succ])
      refine wpAnyH_take (i := 2) (oi := ({ dst := some 15, op := Op.move (Operand.tmp 4), type := 3, pos := "ref.go:23", after := #[], guard := none } : Oper)) (v := ?vm2) rfl (by kernel_rfl) (by kernel_rfl) (by kernel_rfl) (fun _ _ _ h => h) (Or.inl ⟨by rfl, fun w hSw => ?hym2⟩) (by assumption) ?rm2
      case hym2 => (try dsimp only at hSw); go_simp; (try with_reducible rfl)
      (try simp only [Act.put, List.setIfInBounds_toArray, List.set_cons_zero, List.set_cons_succ])
      refine wpAnyH_take (i := 3) (oi := ({ dst := some 16, op := Op.indexAddr 25 (Operand.tmp 14) (Operand.tmp 15), type := 0, pos := "ref.go:23", after := #[{ on := 1, ground := Ground.data }, { on := 2, ground := Ground.data }], guard := none } : Oper)) (v := ?vm3) rfl (by kernel_rfl) (by kernel_rfl) (by kernel_rfl) (fun _ _ _ h => h) (Or.inl ⟨by rfl, fun w hSw => ?hym3⟩) (by assumption) ?rm3
      case hym3 => (try dsimp only at hSw); go_simp; (try with_reducible rfl)
      (try simp only [Act.put, List.setIfInBounds_toArray, List.set_cons_zero, List.set_cons_succ])
      refine wpAnyH_take (i := 4) (oi := ({ dst := some 17, op := Op.fieldAddr 31 (Operand.tmp 16) 0, type := 0, pos := "ref.go:23", after := #[{ on := 3, ground := Ground.data }], guard := none } : Oper)) (v := ?vm4) rfl (by kernel_rfl) (by kernel_rfl) (by kernel_rfl) (fun _ _ _ h => h) (Or.inl ⟨by rfl, fun w hSw => ?hym4⟩) (by assumption) ?rm4
      case hym4 => (try dsimp only at hSw); go_simp; (try with_reducible rfl)
      (try simp only [Act.put, List.setIfInBounds_toArray, List.set_cons_zero, List.set_cons_succ])
      refine wpAnyH_take (i := 5) (oi := ({ dst := some 18, op := Op.load 27 (Operand.tmp 17), type := 27, pos := "ref.go:23", after := #[{ on := 4, ground := Ground.data }], guard := none } : Oper)) (v := ?vm5) rfl (by kernel_rfl) (by kernel_rfl) (by kernel_rfl) (fun _ _ _ h => h) (Or.inl ⟨by rfl, fun w hSw => ?hym5⟩) (by assumption) ?rm5
      case hym5 => (try dsimp only at hSw); go_simp; (try with_reducible rfl)
      (try simp only [Act.put, List.setIfInBounds_toArray, List.set_cons_zero, List.set_cons_succ])
      refine wpAnyH_take (i := 6) (oi := ({ dst := some 19, op := Op.move (Operand.tmp 0), type := 25, pos := "ref.go:23", after := #[], guard := none } : Oper)) (v := ?vm6) rfl (by kernel_rfl) (by kernel_rfl) (by kernel_rfl) (fun _ _ _ h => h) (Or.inl ⟨by rfl, fun w hSw => ?hym6⟩) (by assumption) ?rm6
      case hym6 => (try dsimp only at hSw); go_simp; (try with_reducible rfl)
      (try simp only [Act.put, List.setIfInBounds_toArray, List.set_cons_zero, List.set_cons_succ])
      refine wpAnyH_take (i := 7) (oi := ({ dst := some 20, op := Op.move (Operand.tmp 4), type := 3, pos := "ref.go:23", after := #[], guard := none } : Oper)) (v := ?vm7) rfl (by kernel_rfl) (by kernel_rfl) (by kernel_rfl) (fun _ _ _ h => h) (Or.inl ⟨by rfl, fun w hSw => ?hym7⟩) (by assumption) ?rm7
      case hym7 => (try dsimp only at hSw); go_simp; (try with_reducible rfl)
      (try simp only [Act.put, List.setIfInBounds_toArray, List.set_cons_zero, List.set_cons_succ])
      refine wpAnyH_take (i := 8) (oi := ({ dst := some 21, op := Op.indexAddr 25 (Operand.tmp 19) (Operand.tmp 20), type := 0, pos := "ref.go:23", after := #[{ on := 6, ground := Ground.data }, { on := 7, ground := Ground.data }], guard := none } : Oper)) (v := ?vm8) rfl (by kernel_rfl) (by kernel_rfl) (by kernel_rfl) (fun _ _ _ h => h) (Or.inl ⟨by rfl, fun w hSw => ?hym8⟩) (by assumption) ?rm8
      case hym8 => (try dsimp only at hSw); go_simp; (try with_reducible rfl)
      (try simp only [Act.put, List.setIfInBounds_toArray, List.set_cons_zero, List.set_cons_succ])
      refine wpAnyH_take (i := 9) (oi := ({ dst := some 22, op := Op.fieldAddr 31 (Operand.tmp 21) 1, type := 0, pos := "ref.go:23", after := #[{ on := 8, ground := Ground.data }], guard := none } : Oper)) (v := ?vm9) rfl (by kernel_rfl) (by kernel_rfl) (by kernel_rfl) (fun _ _ _ h => h) (Or.inl ⟨by rfl, fun w hSw => ?hym9⟩) (by assumption) ?rm9
      case hym9 => (try dsimp only at hSw); go_simp; (try with_reducible rfl)
      (try simp only [Act.put, List.setIfInBounds_toArray, List.set_cons_zero, List.set_cons_succ])
      refine wpAnyH_take (i := 10) (oi := ({ dst := some 23, op := Op.load 28 (Operand.tmp 22), type := 28, pos := "ref.go:23", after := #[{ on := 9, ground := Ground.data }], guard := none } : Oper)) (v := ?vm10) rfl (by kernel_rfl) (by kernel_rfl) (by kernel_rfl) (fun _ _ _ h => h) (Or.inl ⟨by rfl, fun w hSw => ?hym10⟩) (by assumption) ?rm10
      case hym10 => (try dsimp only at hSw); go_simp; (try with_reducible rfl)
      (try simp only [Act.put, List.setIfInBounds_toArray, List.set_cons_zero, List.set_cons_succ])
      refine wpAnyH_ready (rs := [11]) (by kernel_rfl) (by simp) ?_
      refine AllReadyH.cons (o := ({ dst := some 24, op := Op.call { callee := Callee.value (Operand.func 28), args := #[Operand.tmp 13, Operand.tmp 18, Operand.tmp 23], argTypes := #[34, 27, 28] }, type := 28, pos := "ref.go:23", after := #[{ on := 0, ground := Ground.data }, { on := 5, ground := Ground.data }, { on := 10, ground := Ground.data }], guard := none } : Oper)) rfl (fun K hK => ?_) AllReadyH.nil
      go_simp
      (refine (rstore_any _ w.heap.size w.heap.size s (newL A V k) k kd a was is (A k) (V k) RD.out hsz hA (by omega) hV).mono ?_; rintro e w2 ⟨rfl, hr2⟩)
      refine hK.out _ _ ?_ (fun hHeld => ?_)
      · exact ⟨cell_turns hHeld.1 (show Turns (fun j => j = w.heap.size) _ _ from hr2.choose_spec.2.2) LBR.out, cell_turns hHeld.2 (show Turns (fun j => j = w.heap.size) _ _ from hr2.choose_spec.2.2) LBR.out⟩
      clear hK K
      (try simp only [Act.put, List.setIfInBounds_toArray, List.set_cons_zero, List.set_cons_succ])
      refine wpAnyH_done (by kernel_rfl) ?_ _
      obtain ⟨s', hr3, _, ht3⟩ := hr2
      have hbb : Below w.heap.size w w2 := (HB.out.drew).trans (ht3.below hsz (fun j hj e => by omega))
      have HR3 := Lib.hid hr3; have HBB := Lib.hid hbb
      clear hr3 ht3 hbb d0 d1
      go_wp2_with fail
      go_roundg (n - (k + 1))
      case measure => omega
      case rel => exact ⟨k + 1, s', _, _, _, _, by omega, rfl, by go_num, by rw [HL.out]; exact HR3.out, HBB.out⟩
    · obtain rfl : k = n := by omega
      obtain ⟨p0, cap, rfl, _⟩ := row_slice HST.out.own
      have e0 : wr.cell? ⟨w.heap.size, 0, none⟩ = some (.slice p0 (newL A V k).length cap) := cell_row HST.out.row 0
      go_wp2_with fail
      go_ret
      refine ⟨wr.heap.size, .slice p0 (newL A V k).length cap, rfl, HB.out.size, ⟨HST.out.good, heap_alloc_new wr _, HST.out.own.alloc _, fun e => ?_⟩, HB.out.alloc HB.out.size _⟩
      have := (HST.out.own.lt _ e).2
      omega
end Go.Proofs.Ytikjlmlbbjbcmaa
