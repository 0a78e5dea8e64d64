/- Texts of this seat, one behind the other. -/
import Derived.Test.YtjppncglkijbjaaGreatDoorB8
import Derived.LoopTactic
import Derived.Deep.LoopGhost
import Derived.Deep.RegionHeld3
import Derived.Maps.RangeWalk
import Derived.OwnWalk
import Derived.BigQuiet
import Derived.Deep.RegionWith
import Derived.Outline
import Derived.WalkSpells
import Derived.Maps.OwnOps
import Derived.Deep.QuietTactic
import Derived.Deep.Cut
import Derived.Deep.CutRange
set_option linter.unusedVariables false
set_option linter.unusedSimpArgs false
namespace Go.Proofs.YtjppncglkijbjaaGreatDoor.S2
open Go.Proofs.YtjppncglkijbjaaGreatDoor
open Go.RowKit Go.Maps

theorem cell_turns {S : Nat → Prop} {xb o : Nat} {v : Value} {w w' : World} (h : w.cell? ⟨xb, o, none⟩ = some v) (t : Turns S w w') (hn : ¬ S xb) : w'.cell? ⟨xb, o, none⟩ = some v :=
  (World.cell?_of_block (w := w) (t.block xb (World.block_lt_of_cell? w _ h) hn)).trans h
def WIn (w : World) (base : Nat) (p : Option Addr) (n : Nat) (A V : Nat → Nat) : Prop := 0 < n → ∃ lb lo, p = some ⟨lb, lo, none⟩ ∧ lb < base ∧ ∀ i, i < n → (w.cell? ⟨lb, lo + i * 2, none⟩ = some (.int .u32 (A i)) ∧ w.cell? ⟨lb, lo + i * 2 + 1, none⟩ = some (.int .u64 (V i)))
def WOk (n : Nat) (A V : Nat → Nat) : Prop := ∀ i, i < n → A i < 4294967296 ∧ V i < 18446744073709551616
theorem WIn.below {w w' : World} {base b : Nat} {p : Option Addr} {n : Nat} {A V : Nat → Nat} (h : WIn w base p n A V) (hb : Below b w w') (hbb : base ≤ b) : WIn w' base p n A V := by
  intro hn
  obtain ⟨lb, lo, e, hl, hc⟩ := h hn
  exact ⟨lb, lo, e, hl, fun i hi => ⟨(hb.cell (by show lb < b; omega)).trans (hc i hi).1, (hb.cell (by show lb < b; omega)).trans (hc i hi).2⟩⟩
def newL (A V : Nat → Nat) : Nat → LL
  | 0 => []
  | k + 1 => putL (newL A V k) (A k) (bring (A k) (V k))
set_option maxHeartbeats 4000000 in
set_option maxRecDepth 100000 in
theorem new_any (p : Option Addr) (n c : Nat) (A V : Nat → Nat) (hn : n ≤ 100) (hok : WOk n A V) (w : World) (hin : WIn w w.heap.size p n A V) :
    Calls Tryz.prog 75 #[.slice p n c] w fun e w' => e = .returned (Pt w.heap.size) ∧ St w' w.heap.size w.heap.size (newL A V n) 0 0 0 0 0 ∧ Below w.heap.size w w' := by
  have s0 : St (w.alloc (.cells #[.map none, .int .i64 0, .int .u8 0, .int .u32 0, .int .u64 0, .int .u64 0] 212)) w.heap.size w.heap.size [] 0 0 0 0 0 := ⟨by simp, Nat.le_refl _, none, ⟨good_nil, heap_alloc_new w _, fun _ => rfl, fun m e => by cases e⟩, fun m e => by cases e⟩
  have hb0 : Below w.heap.size w (w.alloc (.cells #[.map none, .int .i64 0, .int .u8 0, .int .u32 0, .int .u64 0, .int .u64 0] 212)) := (Below.refl _ _).alloc (Nat.le_refl _) _
  have S0 := Lib.hid s0; have B0 := Lib.hid hb0; have HIN := Lib.hid hin; have HOK := Lib.hid hok
  clear s0 hb0 hin hok
  go_enter Tryz.func75, Tryz.ntmps75
  go_wp2_with fail
  go_loopg [10] n (fun q s10 wx => ∃ k : Nat, k ≤ n ∧ q = n - k ∧ s10 = .int .i64 k ∧ St wx w.heap.size w.heap.size (newL A V k) 0 0 0 0 0 ∧ Below w.heap.size w wx)
  case atStart => exact ⟨0, by omega, rfl, rfl, S0.out, B0.out⟩
  case round =>
    obtain ⟨k, hk, rfl, rfl, hst, hb⟩ := hrel
    have HST := Lib.hid hst; have HB := Lib.hid hb
    clear hst
    by_cases hkn : k < n
    · obtain ⟨lb, lo, rfl, hlb, hc⟩ := HIN.out.below hb (Nat.le_refl _) (by omega)
      obtain ⟨d0, d1⟩ := hc k hkn
      obtain ⟨hA, hV⟩ := HOK.out k hkn
      clear hc hb
      go_upto_region 5 with (fail)
      obtain ⟨M, cM, mM⟩ := HST.out.own
      have x0 : (wr.alloc (.cells #[.int .u32 (A k), .int .u64 (V k)] 190)).cell? ⟨wr.heap.size, 0, none⟩ = some (.int .u32 (A k)) := by rw [World.cell?_alloc_at _ _ _ _ rfl]; rfl
      have x1 : (wr.alloc (.cells #[.int .u32 (A k), .int .u64 (V k)] 190)).cell? ⟨wr.heap.size, 1, none⟩ = some (.int .u64 (V k)) := by rw [World.cell?_alloc_at _ _ _ _ rfl]; rfl
      have hxF : ¬ Fp w.heap.size M wr.heap.size := fun h => by have := cM.lt _ h; omega
      have ba : Below wr.heap.size wr (wr.alloc (.cells #[.int .u32 (A k), .int .u64 (V k)] 190)).drew := ((Below.refl _ _).alloc (Nat.le_refl _) _).drew
      have cD := cM.kept (Turns.of_below (S := fun _ => False) ba) (fun _ _ h => h)
      have hL : newL A V (k + 1) = putL (newL A V k) (A k) (bring (A k) (V k)) := rfl
      have HL := Lib.hid hL; have XF := Lib.hid hxF; have BA := Lib.hid ba; have CD := Lib.hid cD; have MM := Lib.hid mM
      have hsz := HST.out.size
      clear hL hxF ba cD cM mM d0 d1
      generalize (wr.alloc (.cells #[.int .u32 (A k), .int .u64 (V k)] 190)) = wz at *
      refine wp_region_held_drew (S := fun w' => w'.cell? ⟨wr.heap.size, 0, none⟩ = some (.int .u32 (A k)) ∧ w'.cell? ⟨wr.heap.size, 1, none⟩ = some (.int .u64 (V k))) (by kernel_rfl) ?_ (fun hHeld => ?_)
      · exact ⟨x0, x1⟩
      refine wpAnyH_take (i := 0) (oi := ({ dst := some 14, op := Op.move (Operand.tmp 3), type := 39, pos := "cells.go:51", after := #[], guard := none } : Oper)) (v := ?vn0) rfl (by kernel_rfl) (by kernel_rfl) (by kernel_rfl) (fun _ _ _ h => h) (Or.inl ⟨by rfl, fun w hSw => ?hyn0⟩) (by assumption) ?rn0
      case hyn0 => (try dsimp only at hSw); go_simp; (try with_reducible rfl)
      (try simp only [Act.put, List.setIfInBounds_toArray, List.set_cons_zero, List.set_cons_succ])
      refine wpAnyH_take (i := 1) (oi := ({ dst := some 15, op := Op.fieldAddr 190 (Operand.tmp 5) 0, type := 0, pos := "cells.go:51", after := #[], guard := none } : Oper)) (v := ?vn1) rfl (by kernel_rfl) (by kernel_rfl) (by kernel_rfl) (fun _ _ _ h => h) (Or.inl ⟨by rfl, fun w hSw => ?hyn1⟩) (by assumption) ?rn1
      case hyn1 => (try dsimp only at hSw); go_simp; (try with_reducible rfl)
      (try simp only [Act.put, List.setIfInBounds_toArray, List.set_cons_zero, List.set_cons_succ])
      refine wpAnyH_take (i := 2) (oi := ({ dst := some 16, op := Op.load 35 (Operand.tmp 15), type := 35, pos := "cells.go:51", after := #[{ on := 1, ground := Ground.data }], guard := none } : Oper)) (v := ?vn2) rfl (by kernel_rfl) (by kernel_rfl) (by kernel_rfl) (fun _ _ _ h => h) (Or.inl ⟨by rfl, fun w hSw => ?hyn2⟩) (by assumption) ?rn2
      case hyn2 => (try dsimp only at hSw); go_simp; (try with_reducible rfl)
      (try simp only [Act.put, List.setIfInBounds_toArray, List.set_cons_zero, List.set_cons_succ])
      refine wpAnyH_take (i := 3) (oi := ({ dst := some 17, op := Op.fieldAddr 190 (Operand.tmp 5) 0, type := 0, pos := "cells.go:51", after := #[], guard := none } : Oper)) (v := ?vn3) rfl (by kernel_rfl) (by kernel_rfl) (by kernel_rfl) (fun _ _ _ h => h) (Or.inl ⟨by rfl, fun w hSw => ?hyn3⟩) (by assumption) ?rn3
      case hyn3 => (try dsimp only at hSw); go_simp; (try with_reducible rfl)
      (try simp only [Act.put, List.setIfInBounds_toArray, List.set_cons_zero, List.set_cons_succ])
      refine wpAnyH_take (i := 4) (oi := ({ dst := some 18, op := Op.load 35 (Operand.tmp 17), type := 35, pos := "cells.go:51", after := #[{ on := 3, ground := Ground.data }], guard := none } : Oper)) (v := ?vn4) rfl (by kernel_rfl) (by kernel_rfl) (by kernel_rfl) (fun _ _ _ h => h) (Or.inl ⟨by rfl, fun w hSw => ?hyn4⟩) (by assumption) ?rn4
      case hyn4 => (try dsimp only at hSw); go_simp; (try with_reducible rfl)
      (try simp only [Act.put, List.setIfInBounds_toArray, List.set_cons_zero, List.set_cons_succ])
      refine wpAnyH_take (i := 5) (oi := ({ dst := some 19, op := Op.fieldAddr 190 (Operand.tmp 5) 1, type := 0, pos := "cells.go:51", after := #[], guard := none } : Oper)) (v := ?vn5) rfl (by kernel_rfl) (by kernel_rfl) (by kernel_rfl) (fun _ _ _ h => h) (Or.inl ⟨by rfl, fun w hSw => ?hyn5⟩) (by assumption) ?rn5
      case hyn5 => (try dsimp only at hSw); go_simp; (try with_reducible rfl)
      (try simp only [Act.put, List.setIfInBounds_toArray, List.set_cons_zero, List.set_cons_succ])
      refine wpAnyH_take (i := 6) (oi := ({ dst := some 20, op := Op.load 23 (Operand.tmp 19), type := 23, pos := "cells.go:51", after := #[{ on := 5, ground := Ground.data }], guard := none } : Oper)) (v := ?vn6) rfl (by kernel_rfl) (by kernel_rfl) (by kernel_rfl) (fun _ _ _ h => h) (Or.inl ⟨by rfl, fun w hSw => ?hyn6⟩) (by assumption) ?rn6
      case hyn6 => (try dsimp only at hSw); go_simp; (try with_reducible rfl)
      (try simp only [Act.put, List.setIfInBounds_toArray, List.set_cons_zero, List.set_cons_succ])
      refine wpAnyH_ready (rs := [7]) (by kernel_rfl) (by simp) ?_
      refine AllReadyH.cons (o := ({ dst := some 21, op := Op.call { callee := Callee.value (Operand.func 125), args := #[Operand.tmp 18, Operand.tmp 20], argTypes := #[35, 23] }, type := 23, pos := "cells.go:51", after := #[{ on := 4, ground := Ground.data }, { on := 6, ground := Ground.data }], guard := none } : Oper)) rfl (fun K hK => ?_) AllReadyH.nil
      go_simp
      (refine (brought_any (A k) (V k) hA hV _).mono ?_; rintro e w1 ⟨rfl, rfl⟩)
      refine hK.out _ _ ?_ (fun hHeld => ?_)
      · exact hHeld
      clear hK K
      (try simp only [Act.put, List.setIfInBounds_toArray, List.set_cons_zero, List.set_cons_succ])
      refine wpAnyH_ready (rs := [8]) (by kernel_rfl) (by simp) ?_
      refine AllReadyH.cons (o := ({ dst := some 22, op := Op.call { callee := Callee.value (Operand.func 124), args := #[Operand.tmp 14, Operand.tmp 16, Operand.tmp 21], argTypes := #[39, 35, 23] }, type := 0, pos := "cells.go:51", after := #[{ on := 0, ground := Ground.data }, { on := 2, ground := Ground.data }, { on := 7, ground := Ground.data }, { on := 7, ground := Ground.chain }], guard := none } : Oper)) rfl (fun K hK => ?_) AllReadyH.nil
      go_simp
      (refine (set_any _ w.heap.size M (newL A V k) 0 0 0 0 0 (A k) (bring (A k) (V k)) CD.out hA (bring_lt hV)).mono ?_; rintro e w2 ⟨rfl, M', hc2, hs2, ht2⟩)
      refine hK.out _ _ ?_ (fun hHeld => ?_)
      · exact ⟨cell_turns hHeld.1 ht2 XF.out, cell_turns hHeld.2 ht2 XF.out⟩
      clear hK K
      (try simp only [Act.put, List.setIfInBounds_toArray, List.set_cons_zero, List.set_cons_succ])
      refine wpAnyH_done (by kernel_rfl) ?_ _
      have hl : Left wz.drew w2 w.heap.size M (putL (newL A V k) (A k) (bring (A k) (V k))) 0 0 0 0 0 := ⟨M', hc2, hs2, ht2⟩
      have hst2 := St.left ((HST.out).new BA.out) MM.out hl
      have HST2 := Lib.hid hst2
      clear hst2 hl hc2 hs2 ht2 x0 x1
      go_wp2_with fail
      go_roundg (n - (k + 1))
      case measure => omega
      case rel => exact ⟨k + 1, by omega, rfl, by go_num, by rw [HL.out]; exact HST2.out.1, (HB.out.trans (BA.out.mono hsz)).trans HST2.out.2⟩
    · obtain rfl : k = n := by omega
      go_wp2_with fail
      go_ret
      exact ⟨rfl, HST.out, HB.out⟩
end Go.Proofs.YtjppncglkijbjaaGreatDoor.S2
