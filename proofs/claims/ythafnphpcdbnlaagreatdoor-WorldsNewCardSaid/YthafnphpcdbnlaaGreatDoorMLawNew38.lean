/- Texts of this seat, one behind the other. -/
import Derived.Test.YthafnphpcdbnlaaGreatDoorMLawNew37
import Derived.Deep.RegionHeld3
set_option linter.unusedVariables false
set_option linter.unusedSimpArgs false
set_option linter.unusedVariables false
set_option linter.unusedSimpArgs false
namespace Go.Proofs.YthafnphpcdbnlaaGreatDoor.S12
open Go.Proofs.YthafnphpcdbnlaaGreatDoor

section
variable {P : Program} {ops : Array Oper} {Q : Exit → Act → World → Prop} {md : Region.Mode} {S : World → Prop}
/-- How many have not come up yet. -/
def openN (L : Array Bool) : Nat := L.toList.count false
theorem openN_set {L : Array Bool} {i : Nat} (h : L[i]? = some false) : openN (L.setIfInBounds i true) + 1 = openN L := by
  obtain ⟨l⟩ := L
  simp only [openN, List.setIfInBounds_toArray] at *
  simp only [List.getElem?_toArray] at h
  induction l generalizing i with
  | nil => simp at h
  | cons x r ih =>
    cases i with
    | zero => simp at h; subst h; simp
    | succ i =>
      simp at h
      have := ih (i := i) h
      cases x <;> simp <;> omega
theorem ready_open {L : Array Bool} {i : Nat} (h : i ∈ Region.ready md ops L) : L[i]? = some false := by
  have h0 := (mem_ready.1 h).1
  rw [Array.getD_eq_getD_getElem?] at h0
  cases e : L[i]? with
  | none => rw [e] at h0; cases h0
  | some x => rw [e] at h0; simp at h0; rw [h0]
theorem ready_full {L : Array Bool} (h : openN L = 0) : Region.ready md ops L = [] := by
  cases e : Region.ready md ops L with
  | nil => rfl
  | cons i r =>
    have hi : i ∈ Region.ready md ops L := by rw [e]; simp
    have := openN_set (ready_open hi)
    omega
/-- Whatever comes up keeps I; when all have come up I gives Q: the region is done, whatever the order. -/
theorem wpAnyH_inv (I : Array Bool → Act → World → Prop)
    (step : ∀ L a w, I L a w → ∀ i ∈ Region.ready md ops L, wpOp P ops Q i (fun a' w' => S w' ∧ I (L.setIfInBounds i true) a' w') a w)
    (done : ∀ L a w, I L a w → Region.ready md ops L = [] → Q .normal a w) :
    ∀ (fuel : Nat) (L : Array Bool) (a : Act) (w : World), openN L ≤ fuel → I L a w → wpAnyH P md ops Q S fuel L a w
  | 0, L, a, w, hf, h => ⟨ready_full (by omega), done L a w h (ready_full (by omega))⟩
  | fuel + 1, L, a, w, hf, h => ⟨fun h0 => done L a w h h0, fun i hi => wpOp_mono (fun a' w' h' => ⟨h'.1, wpAnyH_inv I step done fuel _ a' w' (by have := openN_set (ready_open hi); omega) h'.2⟩) (step L a w h i hi)⟩
/-- The same, with a way out: where the rest goes in one order it is walked on by hand. -/
theorem wpAnyH_inv2 (I : Array Bool → Act → World → Prop)
    (step : ∀ fuel L a w, I L a w → openN L ≤ fuel → wpAnyH P md ops Q S fuel L a w ∨ (Region.ready md ops L ≠ [] ∧ ∀ i ∈ Region.ready md ops L, wpOp P ops Q i (fun a' w' => S w' ∧ I (L.setIfInBounds i true) a' w') a w)) :
    ∀ (fuel : Nat) (L : Array Bool) (a : Act) (w : World), openN L ≤ fuel → I L a w → wpAnyH P md ops Q S fuel L a w
  | 0, L, a, w, hf, h => by
    rcases step 0 L a w h hf with hs | ⟨hne, _⟩
    · exact hs
    · exact absurd (ready_full (by omega)) hne
  | fuel + 1, L, a, w, hf, h => by
    rcases step (fuel + 1) L a w h hf with hs | ⟨hne, hs⟩
    · exact hs
    · exact ⟨fun h0 => absurd h0 hne, fun i hi => wpOp_mono (fun a' w' h' => ⟨h'.1, wpAnyH_inv2 I step fuel _ a' w' (by have := openN_set (ready_open hi); omega) h'.2⟩) (hs i hi)⟩
end
end Go.Proofs.YthafnphpcdbnlaaGreatDoor.S12
set_option linter.unusedVariables false
set_option linter.unusedSimpArgs false
namespace Go.Proofs.YthafnphpcdbnlaaGreatDoor.S2
open Go.Proofs.YthafnphpcdbnlaaGreatDoor
open Go.RowKit Go.Maps

def RNew (w : World) (L : LL) (e : Ending) (w' : World) : Prop := ∃ R s, e = .returned (Pt R) ∧ w.heap.size ≤ R ∧ RefAt w' w.heap.size R s L 0 0 0 0 0 ∧ Below w.heap.size w w'
set_option maxHeartbeats 4000000 in
set_option maxRecDepth 100000 in
theorem rnew_any (p : Option Addr) (n c : Nat) (A V : Nat → Nat) (hn : n ≤ 100) (hok : WOk n A V) (w : World) (hin : WIn w w.heap.size p n A V) :
    Calls Tryz.prog 24 #[.slice p n c] w (RNew w (newL A V n)) := by
  have s0 : RefAt (w.alloc (.cells #[.slice none 0 0, .int .i64 0, .int .u8 0, .int .u32 0, .int .u64 0, .int .u64 0] 152)) w.heap.size w.heap.size (.slice none 0 0) [] 0 0 0 0 0 := ⟨good_nil, heap_alloc_new w _, World.ownsRow_nil _ _ _ _, by simp [Value.ownBlock]⟩
  have hb0 : Below w.heap.size w (w.alloc (.cells #[.slice none 0 0, .int .i64 0, .int .u8 0, .int .u32 0, .int .u64 0, .int .u64 0] 152)) := (Below.refl _ _).alloc (Nat.le_refl _) _
  have S0 := Lib.hid s0; have B0 := Lib.hid hb0; have HIN := Lib.hid hin; have HOK := Lib.hid hok
  clear s0 hb0 hin hok
  go_enter Tryz.func24, Tryz.ntmps24
  go_wp2_with fail
  go_loopg [4] n (fun q s4 wx => ∃ (k : Nat) (s : Value) (kd a was is : Nat), k ≤ n ∧ q = n - k ∧ s4 = .int .i64 k ∧ RefAt wx w.heap.size w.heap.size s (newL A V k) k kd a was is ∧ Below w.heap.size w wx)
  case atStart => exact ⟨0, _, 0, 0, 0, 0, by omega, rfl, rfl, S0.out, B0.out⟩
  case round =>
    obtain ⟨k, s, kd, a, was, is, hk, rfl, rfl, hst, hb⟩ := hrel
    have HST := Lib.hid hst; have HB := Lib.hid hb
    clear hst
    by_cases hkn : k < n
    · obtain ⟨lb, lo, rfl, hlb, hc⟩ := HIN.out.below hb (Nat.le_refl _) (by omega)
      obtain ⟨d0, d1⟩ := hc k hkn
      obtain ⟨hA, hV⟩ := HOK.out k hkn
      have hsz := hb.size
      clear hc hb
      have hL : newL A V (k + 1) = putL (newL A V k) (A k) (bring (A k) (V k)) := rfl
      have HL := Lib.hid hL
      have RD := Lib.hid (HST.out.kept (turns_drew (fun _ => False) _) (fun h => h) (fun _ _ h => h))
      have hlbR : lb ≠ w.heap.size := by omega
      have LBR := Lib.hid hlbR
      clear hL hlbR
      go_upto_region 5 with (fail)
      refine wp_region_held_drew (S := fun w' => w'.cell? ⟨lb, lo + k * 2, none⟩ = some (.int .u32 (A k)) ∧ w'.cell? ⟨lb, lo + k * 2 + 1, none⟩ = some (.int .u64 (V k))) (by kernel_rfl) ?_ (fun hHeld => ?_)
      · exact ⟨d0, d1⟩
      refine wpAnyH_take (i := 0) (oi := ({ dst := some 13, op := Op.move (Operand.tmp 3), type := 48, pos := "ref.go:23", after := #[], guard := none } : Oper)) (v := ?vm0) rfl (by kernel_rfl) (by kernel_rfl) (by kernel_rfl) (fun _ _ _ h => h) (Or.inl ⟨by rfl, fun w hSw => ?hym0⟩) (by assumption) ?rm0
      case hym0 => (try dsimp only at hSw); go_simp; (try with_reducible rfl)
      (try simp only [Act.put, List.setIfInBounds_toArray, List.set_cons_zero, List.set_cons_succ])
      refine wpAnyH_take (i := 1) (oi := ({ dst := some 14, op := Op.move (Operand.tmp 0), type := 78, pos := "ref.go:23", after := #[], guard := none } : Oper)) (v := ?vm1) rfl (by kernel_rfl) (by kernel_rfl) (by kernel_rfl) (fun _ _ _ h => h) (Or.inl ⟨by rfl, fun w hSw => ?hym1⟩) (by assumption) ?rm1
      case hym1 => (try dsimp only at hSw); go_simp; (try with_reducible rfl)
      (try simp only [Act.put, List.setIfInBounds_toArray, List.set_cons_zero, List.set_cons_succ])
      refine wpAnyH_take (i := 2) (oi := ({ dst := some 15, op := Op.move (Operand.tmp 4), type := 3, pos := "ref.go:23", after := #[], guard := none } : Oper)) (v := ?vm2) rfl (by kernel_rfl) (by kernel_rfl) (by kernel_rfl) (fun _ _ _ h => h) (Or.inl ⟨by rfl, fun w hSw => ?hym2⟩) (by assumption) ?rm2
      case hym2 => (try dsimp only at hSw); go_simp; (try with_reducible rfl)
      (try simp only [Act.put, List.setIfInBounds_toArray, List.set_cons_zero, List.set_cons_succ])
      refine wpAnyH_take (i := 3) (oi := ({ dst := some 16, op := Op.indexAddr 78 (Operand.tmp 14) (Operand.tmp 15), type := 0, pos := "ref.go:23", after := #[{ on := 1, ground := Ground.data }, { on := 2, ground := Ground.data }], guard := none } : Oper)) (v := ?vm3) rfl (by kernel_rfl) (by kernel_rfl) (by kernel_rfl) (fun _ _ _ h => h) (Or.inl ⟨by rfl, fun w hSw => ?hym3⟩) (by assumption) ?rm3
      case hym3 => (try dsimp only at hSw); go_simp; (try with_reducible rfl)
      (try simp only [Act.put, List.setIfInBounds_toArray, List.set_cons_zero, List.set_cons_succ])
      refine wpAnyH_take (i := 4) (oi := ({ dst := some 17, op := Op.fieldAddr 77 (Operand.tmp 16) 0, type := 0, pos := "ref.go:23", after := #[{ on := 3, ground := Ground.data }], guard := none } : Oper)) (v := ?vm4) rfl (by kernel_rfl) (by kernel_rfl) (by kernel_rfl) (fun _ _ _ h => h) (Or.inl ⟨by rfl, fun w hSw => ?hym4⟩) (by assumption) ?rm4
      case hym4 => (try dsimp only at hSw); go_simp; (try with_reducible rfl)
      (try simp only [Act.put, List.setIfInBounds_toArray, List.set_cons_zero, List.set_cons_succ])
      refine wpAnyH_take (i := 5) (oi := ({ dst := some 18, op := Op.load 59 (Operand.tmp 17), type := 59, pos := "ref.go:23", after := #[{ on := 4, ground := Ground.data }], guard := none } : Oper)) (v := ?vm5) rfl (by kernel_rfl) (by kernel_rfl) (by kernel_rfl) (fun _ _ _ h => h) (Or.inl ⟨by rfl, fun w hSw => ?hym5⟩) (by assumption) ?rm5
      case hym5 => (try dsimp only at hSw); go_simp; (try with_reducible rfl)
      (try simp only [Act.put, List.setIfInBounds_toArray, List.set_cons_zero, List.set_cons_succ])
      refine wpAnyH_take (i := 6) (oi := ({ dst := some 19, op := Op.move (Operand.tmp 0), type := 78, pos := "ref.go:23", after := #[], guard := none } : Oper)) (v := ?vm6) rfl (by kernel_rfl) (by kernel_rfl) (by kernel_rfl) (fun _ _ _ h => h) (Or.inl ⟨by rfl, fun w hSw => ?hym6⟩) (by assumption) ?rm6
      case hym6 => (try dsimp only at hSw); go_simp; (try with_reducible rfl)
      (try simp only [Act.put, List.setIfInBounds_toArray, List.set_cons_zero, List.set_cons_succ])
      refine wpAnyH_take (i := 7) (oi := ({ dst := some 20, op := Op.move (Operand.tmp 4), type := 3, pos := "ref.go:23", after := #[], guard := none } : Oper)) (v := ?vm7) rfl (by kernel_rfl) (by kernel_rfl) (by kernel_rfl) (fun _ _ _ h => h) (Or.inl ⟨by rfl, fun w hSw => ?hym7⟩) (by assumption) ?rm7
      case hym7 => (try dsimp only at hSw); go_simp; (try with_reducible rfl)
      (try simp only [Act.put, List.setIfInBounds_toArray, List.set_cons_zero, List.set_cons_succ])
      refine wpAnyH_take (i := 8) (oi := ({ dst := some 21, op := Op.indexAddr 78 (Operand.tmp 19) (Operand.tmp 20), type := 0, pos := "ref.go:23", after := #[{ on := 6, ground := Ground.data }, { on := 7, ground := Ground.data }], guard := none } : Oper)) (v := ?vm8) rfl (by kernel_rfl) (by kernel_rfl) (by kernel_rfl) (fun _ _ _ h => h) (Or.inl ⟨by rfl, fun w hSw => ?hym8⟩) (by assumption) ?rm8
      case hym8 => (try dsimp only at hSw); go_simp; (try with_reducible rfl)
      (try simp only [Act.put, List.setIfInBounds_toArray, List.set_cons_zero, List.set_cons_succ])
      refine wpAnyH_take (i := 9) (oi := ({ dst := some 22, op := Op.fieldAddr 77 (Operand.tmp 21) 1, type := 0, pos := "ref.go:23", after := #[{ on := 8, ground := Ground.data }], guard := none } : Oper)) (v := ?vm9) rfl (by kernel_rfl) (by kernel_rfl) (by kernel_rfl) (fun _ _ _ h => h) (Or.inl ⟨by rfl, fun w hSw => ?hym9⟩) (by assumption) ?rm9
      case hym9 => (try dsimp only at hSw); go_simp; (try with_reducible rfl)
      (try simp only [Act.put, List.setIfInBounds_toArray, List.set_cons_zero, List.set_cons_succ])
      refine wpAnyH_take (i := 10) (oi := ({ dst := some 23, op := Op.load 22 (Operand.tmp 22), type := 22, pos := "ref.go:23", after := #[{ on := 9, ground := Ground.data }], guard := none } : Oper)) (v := ?vm10) rfl (by kernel_rfl) (by kernel_rfl) (by kernel_rfl) (fun _ _ _ h => h) (Or.inl ⟨by rfl, fun w hSw => ?hym10⟩) (by assumption) ?rm10
      case hym10 => (try dsimp only at hSw); go_simp; (try with_reducible rfl)
      (try simp only [Act.put, List.setIfInBounds_toArray, List.set_cons_zero, List.set_cons_succ])
      refine wpAnyH_ready (rs := [11]) (by kernel_rfl) (by simp) ?_
      refine AllReadyH.cons (o := ({ dst := some 24, op := Op.call { callee := Callee.value (Operand.func 51), args := #[Operand.tmp 13, Operand.tmp 18, Operand.tmp 23], argTypes := #[48, 59, 22] }, type := 22, pos := "ref.go:23", after := #[{ on := 0, ground := Ground.data }, { on := 5, ground := Ground.data }, { on := 10, ground := Ground.data }], guard := none } : Oper)) rfl (fun K hK => ?_) AllReadyH.nil
      go_simp
      (refine (rstore_any _ w.heap.size w.heap.size s (newL A V k) k kd a was is (A k) (V k) RD.out hsz hA (by omega) hV).mono ?_; rintro e w2 ⟨rfl, hr2⟩)
      refine hK.out _ _ ?_ (fun hHeld => ?_)
      · exact ⟨cell_turns hHeld.1 (show Turns (fun j => j = w.heap.size) _ _ from hr2.choose_spec.2.2) LBR.out, cell_turns hHeld.2 (show Turns (fun j => j = w.heap.size) _ _ from hr2.choose_spec.2.2) LBR.out⟩
      clear hK K
      (try simp only [Act.put, List.setIfInBounds_toArray, List.set_cons_zero, List.set_cons_succ])
      refine wpAnyH_done (by kernel_rfl) ?_ _
      obtain ⟨s', hr3, _, ht3⟩ := hr2
      have hbb : Below w.heap.size w w2 := (HB.out.drew).trans (ht3.below hsz (fun j hj e => by omega))
      have HR3 := Lib.hid hr3; have HBB := Lib.hid hbb
      clear hr3 ht3 hbb d0 d1
      go_wp2_with fail
      go_roundg (n - (k + 1))
      case measure => omega
      case rel => exact ⟨k + 1, s', _, _, _, _, by omega, rfl, by go_num, by rw [HL.out]; exact HR3.out, HBB.out⟩
    · obtain rfl : k = n := by omega
      obtain ⟨p0, cap, rfl, _⟩ := row_slice HST.out.own
      have e0 : wr.cell? ⟨w.heap.size, 0, none⟩ = some (.slice p0 (newL A V k).length cap) := cell_row HST.out.row 0
      go_wp2_with fail
      go_ret
      refine ⟨wr.heap.size, .slice p0 (newL A V k).length cap, rfl, HB.out.size, ⟨HST.out.good, heap_alloc_new wr _, HST.out.own.alloc _, fun e => ?_⟩, HB.out.alloc HB.out.size _⟩
      have := (HST.out.own.lt _ e).2
      omega
end Go.Proofs.YthafnphpcdbnlaaGreatDoor.S2
set_option linter.unusedVariables false
set_option linter.unusedSimpArgs false
namespace Go.Proofs.YthafnphpcdbnlaaGreatDoor.S12
open Go.Proofs.YthafnphpcdbnlaaGreatDoor Go.Proofs.YthafnphpcdbnlaaGreatDoor.S11
open Go.RowKit

def emptyP : Part := ⟨fun _ => True, fun _ => False, fun _ _ _ h => h.elim, fun _ _ _ _ _ _ => trivial⟩
def R7 : Array Oper := #[{ dst := some 19, op := Op.build 77 #[(0, Operand.const (Value.int IntKind.u32 0)), (1, Operand.const (Value.int IntKind.u64 2))], type := 77, pos := "ref.go:40", after := #[], guard := none }, { dst := some 20, op := Op.buildSlice 78 1 #[(0, Operand.tmp 19)], type := 78, pos := "ref.go:40", after := #[{ on := 0, ground := Ground.data }], guard := none }, { dst := some 21, op := Op.call { callee := Callee.value (Operand.func 24), args := #[Operand.tmp 20], argTypes := #[78] }, type := 48, pos := "ref.go:40", after := #[{ on := 1, ground := Ground.data }], guard := none }, { dst := some 22, op := Op.fieldAddr 35 (Operand.tmp 1) 2, type := 0, pos := "ref.go:40", after := #[], guard := none }, { dst := some 23, op := Op.load 23 (Operand.tmp 22), type := 23, pos := "ref.go:40", after := #[{ on := 3, ground := Ground.data }], guard := none }, { dst := some 24, op := Op.fieldAddr 35 (Operand.tmp 1) 1, type := 0, pos := "ref.go:40", after := #[], guard := none }, { dst := some 25, op := Op.load 22 (Operand.tmp 24), type := 22, pos := "ref.go:40", after := #[{ on := 5, ground := Ground.data }], guard := none }, { dst := some 26, op := Op.call { callee := Callee.value (Operand.func 25), args := #[Operand.tmp 23, Operand.tmp 25], argTypes := #[23, 22] }, type := 49, pos := "ref.go:40", after := #[{ on := 4, ground := Ground.data }, { on := 6, ground := Ground.data }, { on := 2, ground := Ground.chain }], guard := none }, { dst := some 27, op := Op.build 84 #[], type := 84, pos := "ref.go:40", after := #[], guard := none }, { dst := some 28, op := Op.box 84 (Operand.tmp 27), type := 50, pos := "ref.go:40", after := #[{ on := 8, ground := Ground.data }], guard := none }, { dst := some 29, op := Op.build 89 #[], type := 89, pos := "ref.go:40", after := #[], guard := none }, { dst := some 30, op := Op.box 89 (Operand.tmp 29), type := 51, pos := "ref.go:40", after := #[{ on := 10, ground := Ground.data }], guard := none }, { dst := some 31, op := Op.call { callee := Callee.value (Operand.func 26), args := #[Operand.const (Value.int IntKind.u64 0)], argTypes := #[22] }, type := 52, pos := "ref.go:40", after := #[{ on := 7, ground := Ground.chain }], guard := none }, { dst := some 32, op := Op.build 93 #[], type := 93, pos := "ref.go:40", after := #[], guard := none }, { dst := some 33, op := Op.box 93 (Operand.tmp 32), type := 53, pos := "ref.go:40", after := #[{ on := 13, ground := Ground.data }], guard := none }, { dst := some 34, op := Op.fieldAddr 35 (Operand.tmp 1) 0, type := 0, pos := "ref.go:40", after := #[], guard := none }, { dst := some 35, op := Op.load 3 (Operand.tmp 34), type := 3, pos := "ref.go:40", after := #[{ on := 15, ground := Ground.data }], guard := none }, { dst := some 36, op := Op.build 55 #[(0, Operand.tmp 21), (1, Operand.tmp 26), (2, Operand.tmp 28), (3, Operand.tmp 30), (4, Operand.tmp 31), (5, Operand.tmp 33), (6, Operand.tmp 35)], type := 55, pos := "ref.go:40", after := #[{ on := 2, ground := Ground.data }, { on := 7, ground := Ground.data }, { on := 9, ground := Ground.data }, { on := 11, ground := Ground.data }, { on := 12, ground := Ground.data }, { on := 14, ground := Ground.data }, { on := 16, ground := Ground.data }], guard := none }, { dst := some 37, op := Op.box 55 (Operand.tmp 36), type := 32, pos := "ref.go:40", after := #[{ on := 17, ground := Ground.data }], guard := none }, { dst := some 4, op := Op.assign (Operand.tmp 37), type := 32, pos := "ref.go:40", after := #[{ on := 18, ground := Ground.data }, { on := 12, ground := Ground.chain }, { on := 0, ground := Ground.phase }, { on := 1, ground := Ground.phase }, { on := 2, ground := Ground.phase }, { on := 3, ground := Ground.phase }, { on := 4, ground := Ground.phase }, { on := 5, ground := Ground.phase }, { on := 6, ground := Ground.phase }, { on := 7, ground := Ground.phase }, { on := 8, ground := Ground.phase }, { on := 9, ground := Ground.phase }, { on := 10, ground := Ground.phase }, { on := 11, ground := Ground.phase }, { on := 12, ground := Ground.phase }, { on := 13, ground := Ground.phase }, { on := 14, ground := Ground.phase }, { on := 15, ground := Ground.phase }, { on := 16, ground := Ground.phase }, { on := 17, ground := Ground.phase }, { on := 18, ground := Ground.phase }], guard := none }]
/-- What has come up: so many of the chain, which of the three boxes. -/
def L7 (c : Nat) (b0 b1 b2 : Bool) : Array Bool := #[true, decide (1 ≤ c), decide (2 ≤ c), true, true, true, true, decide (3 ≤ c), true, b0, true, b1, decide (4 ≤ c), true, b2, true, true, decide (5 ≤ c), decide (6 ≤ c), decide (7 ≤ c)]
noncomputable def F7 (spin : Int) (most n c : Nat) (A : Option Addr) (X : Nat) (x4 x20 x21 x26 x28 x30 x31 x33 x36 x37 : Value) : Act := { tmps := #[.agg #[.int .i64 spin, .int .u64 (most : Int), .slice A n c], .pointer (some ⟨X, 0, none⟩), .pointer none, .int .i64 0, x4, .pointer (some ⟨X, 0, none⟩), .int .i64 spin, .bool false, .bool false, .pointer (some ⟨X, 0, none⟩), .int .i64 spin, .bool false, .bool false, .bool false, .pointer (some ⟨X, 2, none⟩), .slice A n c, .int .i64 (n : Int), .bool false, .bool false, .agg #[.int .u32 0, .int .u64 2], x20, x21, .pointer (some ⟨X, 2, none⟩), .slice A n c, .pointer (some ⟨X, 1, none⟩), .int .u64 (most : Int), x26, .agg Tryz.zeroCells84, x28, .agg Tryz.zeroCells89, x30, x31, .agg #[.slice none 0 0], x33, .pointer (some ⟨X, 0, none⟩), .int .i64 spin, x36, x37, undef], defers := [] }
section
variable (c : Nat) (b0 b1 b2 : Bool)
/-- Which may come up next. -/
theorem ready7 (hc : c ≤ 4) : Region.ready .any R7 (L7 c b0 b1 b2) = (if c = 0 then [1] else []) ++ (if c = 1 then [2] else []) ++ (if c = 2 then [7] else []) ++ (if b0 then [] else [9]) ++ (if b1 then [] else [11]) ++ (if c = 3 then [12] else []) ++ (if b2 then [] else [14]) ++ (if c = 4 ∧ b0 = true ∧ b1 = true ∧ b2 = true then [17] else []) := by
  have h : c = 0 ∨ c = 1 ∨ c = 2 ∨ c = 3 ∨ c = 4 := by omega
  rcases h with rfl | rfl | rfl | rfl | rfl <;> cases b0 <;> cases b1 <;> cases b2 <;> decide +kernel
theorem set1 : (L7 0 b0 b1 b2).setIfInBounds 1 true = L7 1 b0 b1 b2 := rfl
theorem set2 : (L7 1 b0 b1 b2).setIfInBounds 2 true = L7 2 b0 b1 b2 := rfl
theorem set7 : (L7 2 b0 b1 b2).setIfInBounds 7 true = L7 3 b0 b1 b2 := rfl
theorem set12 : (L7 3 b0 b1 b2).setIfInBounds 12 true = L7 4 b0 b1 b2 := rfl
theorem set9 : (L7 c false b1 b2).setIfInBounds 9 true = L7 c true b1 b2 := rfl
theorem set11 : (L7 c b0 false b2).setIfInBounds 11 true = L7 c b0 true b2 := rfl
theorem set14 : (L7 c b0 b1 false).setIfInBounds 14 true = L7 c b0 b1 true := rfl
end
def wordsO : Obj := .cells #[.int .u32 0, .int .u64 2] 77
def sW (on : Bool) (x : Value) (q : Part) : Prop := if on then (∃ B, x = .slice (some ⟨B, 0, none⟩) 1 1 ∧ q = blockP B wordsO) else q = emptyP
def sC (on : Bool) (x : Value) (q : Part) : Prop := if on then (∃ b B s, x = .pointer (some ⟨B, 0, none⟩) ∧ q = rcellsP b B s L02 0 0 0 0 0) else q = emptyP
def sK (most : Nat) (D : List Nat) (on : Bool) (x : Value) (q : Part) : Prop := if on then (∃ b B s, x = .pointer (some ⟨B, 0, none⟩) ∧ q = rclockP b B 0 most s (D.take 65536)) else q = emptyP
def sT (on : Bool) (x : Value) (q : Part) : Prop := if on then (∃ b own, q = rtablesP b own x (S10.M0 0)) else q = emptyP
def sB (T : Nat) (cs : Array Value) (on : Bool) (x : Value) (q : Part) : Prop := if on then (∃ B, x = .pointer (some ⟨B, 0, none⟩) ∧ q = blockP B (.cells cs T)) else q = emptyP
structure G7 (w : World) (X : Nat) (cfg : Obj) (most : Nat) (D : List Nat) (c : Nat) (b0 b1 b2 : Bool) (x20 x21 x26 x28 x30 x31 x33 : Value) (q0 qc qk qt qp ql qn : Part) : Prop where
  ps : Parts w X [blockP X cfg, q0, qc, qk, qt, qp, ql, qn]
  h0 : sW (decide (1 ≤ c)) x20 q0
  hc : sC (decide (2 ≤ c)) x21 qc
  hk : sK most D (decide (3 ≤ c)) x26 qk
  ht : sT (decide (4 ≤ c)) x31 qt
  hp : sB 84 Tryz.zeroCells84 b0 x28 qp
  hl : sB 89 Tryz.zeroCells89 b1 x30 ql
  hn : sB 93 #[.slice none 0 0] b2 x33 qn
/-- A thing more where none stood. -/
theorem Parts.fill {w w' : World} {base i : Nat} {l : List Part} (h : Parts w base l) (hi : l[i]? = some emptyP) (q : Part) (b : Below w.heap.size w w') (hq : q.ok w') (hf : ∀ k, q.fp k → w.heap.size ≤ k) : Parts w' base (l.set i q) :=
  (h.turn hi q hq (Turns.of_below b) (fun k e => .inr (hf k e))).1
end Go.Proofs.YthafnphpcdbnlaaGreatDoor.S12
