/- Texts of this seat, one behind the other. -/
import Derived.Test.YtieiiabbeglmfaaGreatDoorMLawFair2031
import Derived.Deep.DeepCutAuto
set_option linter.unusedVariables false
set_option linter.unusedSimpArgs false
set_option linter.unusedVariables false
set_option linter.unusedSimpArgs false
namespace Go.Proofs.YtieiiabbeglmfaaGreatDoor.S10
open Go.Proofs.YtieiiabbeglmfaaGreatDoor
open Go.RowKit
theorem first_any {w : World} {base : Nat} {A : Option Addr} {D : List Ent} (c : Nat) (key : Int) (hr : Rd w base A (flat D)) (hbase : base ≤ w.heap.size) (hlen : D.length ≤ 1000000) :
    Calls Tryz.prog 194 #[.slice A D.length c, .int .u32 key] w fun e w' => e = .returned (.int .i64 (idx (byKey key) D)) ∧ Below w.heap.size w w' := by
  obtain ⟨w1, hw1⟩ : ∃ w1, w1 = w.alloc (.cells #[.int .u32 key] 35) := ⟨_, rfl⟩
  have hb1 : Below w.heap.size w w1 := by rw [hw1]; exact (Below.refl _ w).alloc (Nat.le_refl _) _
  have hc1 : w1.cell? ⟨w.heap.size, 0, none⟩ = some (.int .u32 key) := by rw [hw1, World.cell?_alloc_at _ _ _ _ rfl]; rfl
  have hs1 : w.heap.size < w1.heap.size := by rw [hw1]; simp
  have hcon := index_any c 226 #[.pointer (some ⟨w.heap.size, 0, none⟩)] (byKey key) eg29 (hr.below hb1 hbase) (by omega) hlen
    (fun W e hb => first1_any key w.heap.size w1 hc1 hs1 W e hb)
  generalize idx (byKey key) D = r at *
  have HC := Lib.hid hcon; have HB := Lib.hid hb1
  clear hcon hb1 hc1 hr
  subst hw1
  go_enter Tryz.func194, Tryz.ntmps194
  go_wp2_with fail
  refine HC.out.mono ?_
  rintro e w' ⟨rfl, hb'⟩
  go_wp2_with fail
  go_ret
  exact ⟨rfl, HB.out.trans (hb'.mono HB.out.size)⟩
theorem of_any {w : World} {base : Nat} {A : Option Addr} {D : List Ent} (c : Nat) (t : Int) (hr : Rd w base A (flat D)) (hbase : base ≤ w.heap.size) (hlen : D.length ≤ 1000000) :
    Calls Tryz.prog 272 #[.slice A D.length c, .int .i64 t] w fun e w' => e = .returned (.int .i64 (idx (byThread t) D)) ∧ Below w.heap.size w w' := by
  obtain ⟨w1, hw1⟩ : ∃ w1, w1 = w.alloc (.cells #[.int .i64 t] 3) := ⟨_, rfl⟩
  have hb1 : Below w.heap.size w w1 := by rw [hw1]; exact (Below.refl _ w).alloc (Nat.le_refl _) _
  have hc1 : w1.cell? ⟨w.heap.size, 0, none⟩ = some (.int .i64 t) := by rw [hw1, World.cell?_alloc_at _ _ _ _ rfl]; rfl
  have hs1 : w.heap.size < w1.heap.size := by rw [hw1]; simp
  have hcon := index_any c 274 #[.pointer (some ⟨w.heap.size, 0, none⟩)] (byThread t) eg30 (hr.below hb1 hbase) (by omega) hlen
    (fun W e hb => of1_any t w.heap.size w1 hc1 hs1 W e hb)
  generalize idx (byThread t) D = r at *
  have HC := Lib.hid hcon; have HB := Lib.hid hb1
  clear hcon hb1 hc1 hr
  subst hw1
  go_enter Tryz.func272, Tryz.ntmps272
  go_wp2_with fail
  refine HC.out.mono ?_
  rintro e w' ⟨rfl, hb'⟩
  go_wp2_with fail
  go_ret
  exact ⟨rfl, HB.out.trans (hb'.mono HB.out.size)⟩
theorem lhas_any {w : World} {base : Nat} {A : Option Addr} {D : List Ent} (c : Nat) (key : Int) (hr : Rd w base A (flat D)) (hbase : base ≤ w.heap.size) (hlen : D.length ≤ 1000000) :
    Calls Tryz.prog 195 #[.slice A D.length c, .int .u32 key] w fun e w' => e = .returned (.bool (decide (0 ≤ idx (byKey key) D))) ∧ Below w.heap.size w w' := by
  have HC := Lib.hid (first_any c key hr hbase hlen)
  clear hr
  generalize idx (byKey key) D = r at *
  go_enter Tryz.func195, Tryz.ntmps195
  go_wp2_with fail
  refine HC.out.mono ?_
  rintro e w' ⟨rfl, hb'⟩
  go_wp2_with fail
  go_ret
  exact ⟨rfl, hb'⟩
end Go.Proofs.YtieiiabbeglmfaaGreatDoor.S10
namespace Go.Proofs.YtieiiabbeglmfaaGreatDoor.S10
open Go.Proofs.YtieiiabbeglmfaaGreatDoor
open Go.RowKit
def cutE (D : List Ent) (p : Int) : Ent := if 0 ≤ p ∧ p < D.length then D[p.toNat]! else default
def cutL (D : List Ent) (p : Int) : List Ent := if 0 ≤ p then D.eraseIdx p.toNat else D
def cutB (D : List Ent) (p : Int) : Bool := decide (0 ≤ p) && decide (p < D.length)
theorem cutL_len (D : List Ent) (p : Int) : (cutL D p).length ≤ D.length := by
  unfold cutL
  split
  · exact List.length_eraseIdx_le ..
  · exact Nat.le_refl _
def re (key : Int) (e : Ent) : Ent := ⟨e.t, key, e.z⟩
def movedL (D M : List Ent) (key : Int) : List Ent := D ++ M.map (re key)
theorem Row.below_of {w w' : World} {base sz n : Nat} {s : Value} {cs : List Value} (h : Row w base sz s n cs) (t : Turns (fun k => s.ownBlock = some k) w w') (hb : base ≤ w.heap.size) : Below base w w' :=
  t.below hb (fun k hk e => by have := (h.lt k e).1; omega)
theorem moved_len (D M : List Ent) (key : Int) : (movedL D M key).length = D.length + M.length := by simp [movedL]
def ec (e : Ent) : Array Value := #[.int .i64 e.t, .int .u32 e.k, .int .u64 e.z]
theorem ec_set (e d : Ent) : (((ec e).setIfInBounds 0 (.int .i64 d.t)).setIfInBounds 1 (.int .u32 d.k)).setIfInBounds 2 (.int .u64 d.z) = ec d := rfl
theorem ent_store {w : World} {B : Nat} {e d : Ent} {T : TypeId} (h : w.heap[B]? = some (.cells (ec e) T (0, 0))) : (((w.setCell ⟨B, 0, none⟩ (.int .i64 d.t)).setCell ⟨B, 1, none⟩ (.int .u32 d.k)).setCell ⟨B, 2, none⟩ (.int .u64 d.z)).heap[B]? = some (.cells (ec d) T (0, 0)) := by
  have h1 := row_set (row_set (row_set h 0 (.int .i64 d.t)) 1 (.int .u32 d.k)) 2 (.int .u64 d.z)
  rwa [ec_set] at h1
theorem turns3 (w : World) (B : Nat) (d : Ent) : Turns (fun g => g = B) w (((w.setCell ⟨B, 0, none⟩ (.int .i64 d.t)).setCell ⟨B, 1, none⟩ (.int .u32 d.k)).setCell ⟨B, 2, none⟩ (.int .u64 d.z)) := by
  have h0 := (Turns.refl (fun g => g = B) w).setCell ⟨B, 0, none⟩ (.int .i64 d.t) rfl
  have h1 := h0.setCell ⟨B, 1, none⟩ (.int .u32 d.k) rfl
  exact h1.setCell ⟨B, 2, none⟩ (.int .u64 d.z) rfl
end Go.Proofs.YtieiiabbeglmfaaGreatDoor.S10
