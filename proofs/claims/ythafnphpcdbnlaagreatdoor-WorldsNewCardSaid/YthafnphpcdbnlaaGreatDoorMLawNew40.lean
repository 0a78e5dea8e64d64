/- Texts of this seat, one behind the other. -/
import Derived.Test.YthafnphpcdbnlaaGreatDoorMLawNew39
set_option linter.unusedVariables false
set_option linter.unusedSimpArgs false
set_option linter.unusedVariables false
set_option linter.unusedSimpArgs false
namespace Go.Proofs.YthafnphpcdbnlaaGreatDoor.S12
open Go.Proofs.YthafnphpcdbnlaaGreatDoor Go.Proofs.YthafnphpcdbnlaaGreatDoor.S11
open Go.RowKit

/-- A world of the document's as it is made: six things, and its own block. -/
def RWorld (w w' : World) (spin : Int) (most : Nat) (D : List Nat) (Bw : Nat) : Prop :=
  ∃ (q : List Part) (Bc Bk Bp Bl Bt Bn bc bk bt : Nat) (sc sk : Value) (own : Nat → Option S10.Role),
    Parts w' w.heap.size (q ++ [rcellsP bc Bc sc L02 0 0 0 0 0, rclockP bk Bk 0 most sk (D.take 65536), rtablesP bt own (.pointer (some ⟨Bt, 0, none⟩)) (S10.M0 0), blockP Bp (.cells Tryz.zeroCells84 84), blockP Bl (.cells Tryz.zeroCells89 89), blockP Bn (.cells #[.slice none 0 0] 93), blockP Bw (.cells (wcells (.pointer (some ⟨Bc, 0, none⟩)) (.pointer (some ⟨Bk, 0, none⟩)) (.pointer (some ⟨Bp, 0, none⟩)) (.pointer (some ⟨Bl, 0, none⟩)) (.pointer (some ⟨Bt, 0, none⟩)) (.pointer (some ⟨Bn, 0, none⟩)) spin) 55)])
set_option maxHeartbeats 4000000 in
set_option maxRecDepth 100000 in
theorem rworld_any {w : World} (spin : Int) (most n c : Nat) (A : Option Addr) {D : List Nat} (hs : 0 ≤ spin ∧ spin ≤ 16) (hn : n ≤ 65536)
    (hclk : ∀ W, Below w.heap.size w W → Calls Tryz.prog 25 #[.slice A n c, .int .u64 (most : Int)] W (S3.RMade W 0 most (D.take 65536))) :
    Calls Tryz.prog 6 #[.agg #[.int .i64 spin, .int .u64 (most : Int), .slice A n c]] w fun e w' => ∃ Bw, e = .returned (.tuple #[.pointer (some ⟨Bw, 0, none⟩), .int .i64 0]) ∧ RWorld w w' spin most D Bw ∧ Below w.heap.size w w' := by
  have hnew := heap_alloc_new w (.cells #[.int .i64 spin, .int .u64 (most : Int), .slice A n c] 35)
  have c0 := cell_row hnew 0; have c1 := cell_row hnew 1; have c2 := cell_row hnew 2
  simp only [List.getElem?_toArray, List.getElem?_cons_zero, List.getElem?_cons_succ] at c0 c1 c2
  have h1 : ¬ spin < 0 := by omega
  have h2 : ¬ 16 < spin := by omega
  have h3 : ¬ (65536 : Int) < (n : Int) := by omega
  have hP0 := (parts_nil w).push (blockP w.heap.size (.cells #[.int .i64 spin, .int .u64 (most : Int), .slice A n c] 35)) (below1 w (.cells #[.int .i64 spin, .int .u64 (most : Int), .slice A n c] 35)) hnew (fun k e => Nat.le_of_eq e.symm)
  have hP : Parts (w.alloc (.cells #[.int .i64 spin, .int .u64 (most : Int), .slice A n c] 35)).drew w.heap.size [blockP w.heap.size (.cells #[.int .i64 spin, .int .u64 (most : Int), .slice A n c] 35), emptyP, emptyP, emptyP, emptyP, emptyP, emptyP, emptyP] := by
    refine ⟨hP0.drew.size, fun i p hp => ?_, fun i j p q hp hq hij k hk hk2 => ?_, fun i p hp k hk => ?_⟩
    · match i, hp with
      | 0, hp => exact hP0.drew.ok 0 p hp
      | 1, hp => injection hp with hp; subst hp; trivial
      | 2, hp => injection hp with hp; subst hp; trivial
      | 3, hp => injection hp with hp; subst hp; trivial
      | 4, hp => injection hp with hp; subst hp; trivial
      | 5, hp => injection hp with hp; subst hp; trivial
      | 6, hp => injection hp with hp; subst hp; trivial
      | 7, hp => injection hp with hp; subst hp; trivial
      | i + 8, hp => simp at hp
    · have hz : ∀ i p, [blockP w.heap.size (.cells #[.int .i64 spin, .int .u64 (most : Int), .slice A n c] 35), emptyP, emptyP, emptyP, emptyP, emptyP, emptyP, emptyP][i]? = some p → p.fp k → i = 0 := fun i p hp hk => by
        match i, hp with
        | 0, _ => rfl
        | 1, hp => injection hp with hp; subst hp; exact hk.elim
        | 2, hp => injection hp with hp; subst hp; exact hk.elim
        | 3, hp => injection hp with hp; subst hp; exact hk.elim
        | 4, hp => injection hp with hp; subst hp; exact hk.elim
        | 5, hp => injection hp with hp; subst hp; exact hk.elim
        | 6, hp => injection hp with hp; subst hp; exact hk.elim
        | 7, hp => injection hp with hp; subst hp; exact hk.elim
        | i + 8, hp => simp at hp
      exact hij ((hz i p hp hk).trans (hz j q hq hk2).symm)
    · match i, hp with
      | 0, hp => exact hP0.drew.low 0 p hp k hk
      | 1, hp => injection hp with hp; subst hp; exact hk.elim
      | 2, hp => injection hp with hp; subst hp; exact hk.elim
      | 3, hp => injection hp with hp; subst hp; exact hk.elim
      | 4, hp => injection hp with hp; subst hp; exact hk.elim
      | 5, hp => injection hp with hp; subst hp; exact hk.elim
      | 6, hp => injection hp with hp; subst hp; exact hk.elim
      | 7, hp => injection hp with hp; subst hp; exact hk.elim
      | i + 8, hp => simp at hp
  have HP := Lib.hid hP; have HCLK := Lib.hid hclk
  have HB0 : Hid (Below w.heap.size w (w.alloc (.cells #[.int .i64 spin, .int .u64 (most : Int), .slice A n c] 35))) := Lib.hid (below1 _ _)
  clear hnew hP0 hP hclk
  go_enter Tryz.func6, Tryz.ntmps6
  go_upto_region 3 with (fail)
  generalize hX : w.heap.size = X at *
  generalize w.alloc (.cells #[.int .i64 spin, .int .u64 (most : Int), .slice A n c] 35) = wb at *
  have HX := Lib.hid hX
  clear hX
  refine wp_region_held_drew (S := fun w' => w'.cell? ⟨X, 0, none⟩ = some (.int .i64 spin) ∧ w'.cell? ⟨X, 1, none⟩ = some (.int .u64 (most : Int)) ∧ w'.cell? ⟨X, 2, none⟩ = some (.slice A n c)) (by kernel_rfl) ?_ (fun hHeld => ?_)
  · exact ⟨c0, c1, c2⟩
  refine wpAnyH_take (i := 0) (oi := ({ dst := some 19, op := Op.build 77 #[(0, Operand.const (Value.int IntKind.u32 0)), (1, Operand.const (Value.int IntKind.u64 2))], type := 77, pos := "ref.go:40", after := #[], guard := none } : Oper)) (v := ?va0) rfl (by kernel_rfl) (by kernel_rfl) (by kernel_rfl) (fun _ _ _ h => h) (Or.inl ⟨by rfl, fun w hSw => ?hya0⟩) (by assumption) ?ra0
  case hya0 => (try dsimp only at hSw); go_simp; (try with_reducible rfl)
  (try simp only [Act.put, List.setIfInBounds_toArray, List.set_cons_zero, List.set_cons_succ])
  refine wpAnyH_take (i := 3) (oi := ({ dst := some 22, op := Op.fieldAddr 35 (Operand.tmp 1) 2, type := 0, pos := "ref.go:40", after := #[], guard := none } : Oper)) (v := ?va3) rfl (by kernel_rfl) (by kernel_rfl) (by kernel_rfl) (fun _ _ _ h => h) (Or.inl ⟨by rfl, fun w hSw => ?hya3⟩) (by assumption) ?ra3
  case hya3 => (try dsimp only at hSw); go_simp; (try with_reducible rfl)
  (try simp only [Act.put, List.setIfInBounds_toArray, List.set_cons_zero, List.set_cons_succ])
  refine wpAnyH_take (i := 4) (oi := ({ dst := some 23, op := Op.load 23 (Operand.tmp 22), type := 23, pos := "ref.go:40", after := #[{ on := 3, ground := Ground.data }], guard := none } : Oper)) (v := ?va4) rfl (by kernel_rfl) (by kernel_rfl) (by kernel_rfl) (fun _ _ _ h => h) (Or.inl ⟨by rfl, fun w hSw => ?hya4⟩) (by assumption) ?ra4
  case hya4 => (try dsimp only at hSw); go_simp; (try with_reducible rfl)
  (try simp only [Act.put, List.setIfInBounds_toArray, List.set_cons_zero, List.set_cons_succ])
  refine wpAnyH_take (i := 5) (oi := ({ dst := some 24, op := Op.fieldAddr 35 (Operand.tmp 1) 1, type := 0, pos := "ref.go:40", after := #[], guard := none } : Oper)) (v := ?va5) rfl (by kernel_rfl) (by kernel_rfl) (by kernel_rfl) (fun _ _ _ h => h) (Or.inl ⟨by rfl, fun w hSw => ?hya5⟩) (by assumption) ?ra5
  case hya5 => (try dsimp only at hSw); go_simp; (try with_reducible rfl)
  (try simp only [Act.put, List.setIfInBounds_toArray, List.set_cons_zero, List.set_cons_succ])
  refine wpAnyH_take (i := 6) (oi := ({ dst := some 25, op := Op.load 22 (Operand.tmp 24), type := 22, pos := "ref.go:40", after := #[{ on := 5, ground := Ground.data }], guard := none } : Oper)) (v := ?va6) rfl (by kernel_rfl) (by kernel_rfl) (by kernel_rfl) (fun _ _ _ h => h) (Or.inl ⟨by rfl, fun w hSw => ?hya6⟩) (by assumption) ?ra6
  case hya6 => (try dsimp only at hSw); go_simp; (try with_reducible rfl)
  (try simp only [Act.put, List.setIfInBounds_toArray, List.set_cons_zero, List.set_cons_succ])
  refine wpAnyH_take (i := 8) (oi := ({ dst := some 27, op := Op.build 84 #[], type := 84, pos := "ref.go:40", after := #[], guard := none } : Oper)) (v := ?va8) rfl (by kernel_rfl) (by kernel_rfl) (by kernel_rfl) (fun _ _ _ h => h) (Or.inl ⟨by rfl, fun w hSw => ?hya8⟩) (by assumption) ?ra8
  case hya8 => (try dsimp only at hSw); go_simp; (try with_reducible rfl)
  (try simp only [Act.put, List.setIfInBounds_toArray, List.set_cons_zero, List.set_cons_succ])
  refine wpAnyH_take (i := 10) (oi := ({ dst := some 29, op := Op.build 89 #[], type := 89, pos := "ref.go:40", after := #[], guard := none } : Oper)) (v := ?va10) rfl (by kernel_rfl) (by kernel_rfl) (by kernel_rfl) (fun _ _ _ h => h) (Or.inl ⟨by rfl, fun w hSw => ?hya10⟩) (by assumption) ?ra10
  case hya10 => (try dsimp only at hSw); go_simp; (try with_reducible rfl)
  (try simp only [Act.put, List.setIfInBounds_toArray, List.set_cons_zero, List.set_cons_succ])
  refine wpAnyH_take (i := 13) (oi := ({ dst := some 32, op := Op.build 93 #[], type := 93, pos := "ref.go:40", after := #[], guard := none } : Oper)) (v := ?va13) rfl (by kernel_rfl) (by kernel_rfl) (by kernel_rfl) (fun _ _ _ h => h) (Or.inl ⟨by rfl, fun w hSw => ?hya13⟩) (by assumption) ?ra13
  case hya13 => (try dsimp only at hSw); go_simp; (try with_reducible rfl)
  (try simp only [Act.put, List.setIfInBounds_toArray, List.set_cons_zero, List.set_cons_succ])
  refine wpAnyH_take (i := 15) (oi := ({ dst := some 34, op := Op.fieldAddr 35 (Operand.tmp 1) 0, type := 0, pos := "ref.go:40", after := #[], guard := none } : Oper)) (v := ?va15) rfl (by kernel_rfl) (by kernel_rfl) (by kernel_rfl) (fun _ _ _ h => h) (Or.inl ⟨by rfl, fun w hSw => ?hya15⟩) (by assumption) ?ra15
  case hya15 => (try dsimp only at hSw); go_simp; (try with_reducible rfl)
  (try simp only [Act.put, List.setIfInBounds_toArray, List.set_cons_zero, List.set_cons_succ])
  refine wpAnyH_take (i := 16) (oi := ({ dst := some 35, op := Op.load 3 (Operand.tmp 34), type := 3, pos := "ref.go:40", after := #[{ on := 15, ground := Ground.data }], guard := none } : Oper)) (v := ?va16) rfl (by kernel_rfl) (by kernel_rfl) (by kernel_rfl) (fun _ _ _ h => h) (Or.inl ⟨by rfl, fun w hSw => ?hya16⟩) (by assumption) ?ra16
  case hya16 => (try dsimp only at hSw); go_simp; (try with_reducible rfl)
  (try simp only [Act.put, List.setIfInBounds_toArray, List.set_cons_zero, List.set_cons_succ])
  clear hHeld c0 c1 c2 h1 h2 h3
  refine all7 (w0 := w) (D := D) (fun c a d v w h => h) HB0.out.drew ⟨HP.out, rfl, rfl, rfl, rfl, rfl, rfl, rfl⟩ (fun w' l hl => ?_) HCLK.out (fun wv Bc Bk Bp Bl Bt Bn bc bk bt sc sk own q0 x20 hb hp => ?_) _ (by decide)
  · have h0 : w'.heap[X]? = some (.cells #[.int .i64 spin, .int .u64 (most : Int), .slice A n c] 35) := hl.ok 0 _ rfl
    exact ⟨cell_row h0 0, cell_row h0 1, cell_row h0 2⟩
  · have hp2 := hp.push (blockP wv.heap.size (.cells (wcells (.pointer (some ⟨Bc, 0, none⟩)) (.pointer (some ⟨Bk, 0, none⟩)) (.pointer (some ⟨Bp, 0, none⟩)) (.pointer (some ⟨Bl, 0, none⟩)) (.pointer (some ⟨Bt, 0, none⟩)) (.pointer (some ⟨Bn, 0, none⟩)) spin) 55)) (below1 wv _) (heap_alloc_new _ _) (fun k e => Nat.le_of_eq e.symm)
    have hb2 : Below X w (wv.alloc (.cells (wcells (.pointer (some ⟨Bc, 0, none⟩)) (.pointer (some ⟨Bk, 0, none⟩)) (.pointer (some ⟨Bp, 0, none⟩)) (.pointer (some ⟨Bl, 0, none⟩)) (.pointer (some ⟨Bt, 0, none⟩)) (.pointer (some ⟨Bn, 0, none⟩)) spin) 55)) := hb.alloc hp.size _
    have HP2 := Lib.hid hp2; have HB2 := Lib.hid hb2
    clear hp hb hp2 hb2 HP HCLK HB0
    unfold F7
    generalize hWC : wcells (.pointer (some ⟨Bc, 0, none⟩)) (.pointer (some ⟨Bk, 0, none⟩)) (.pointer (some ⟨Bp, 0, none⟩)) (.pointer (some ⟨Bl, 0, none⟩)) (.pointer (some ⟨Bt, 0, none⟩)) (.pointer (some ⟨Bn, 0, none⟩)) spin = WC at *
    have HWC := Lib.hid hWC
    clear hWC
    go_wp2_with fail
    go_ret2
    refine ⟨wv.heap.size, rfl, ⟨[blockP X (.cells #[.int .i64 spin, .int .u64 (most : Int), .slice A n c] 35), q0], Bc, Bk, Bp, Bl, Bt, Bn, bc, bk, bt, sc, sk, own, ?_⟩, by rw [HX.out]; exact HB2.out⟩
    rw [HX.out, HWC.out]
    exact HP2.out
end Go.Proofs.YthafnphpcdbnlaaGreatDoor.S12
set_option linter.unusedVariables false
set_option linter.unusedSimpArgs false
namespace Go.Proofs.YthafnphpcdbnlaaGreatDoor.S12
open Go.Proofs.YthafnphpcdbnlaaGreatDoor Go.Proofs.YthafnphpcdbnlaaGreatDoor.S11
open Go.RowKit

def BoolE (e : Ending) : Prop := ∃ r : Bool, e = .returned (.bool r)
/-- What firing leaves: a clock and tables as they may be then. -/
def Fired (w w' : World) (base : Nat) (X : Wm) (N : Nat) : Prop := ∃ s D M, PW w' base { X with ks := s, D := D, tM := M } ∧ S10.Good M N ∧ Below base w w'
end Go.Proofs.YthafnphpcdbnlaaGreatDoor.S12
set_option linter.unusedVariables false
set_option linter.unusedSimpArgs false
namespace Go.Proofs.YthafnphpcdbnlaaGreatDoor.S3
open Go.Proofs.YthafnphpcdbnlaaGreatDoor
open Go.RowKit

def OthC (w w' : World) (spin most : Int) (D : List Nat) (e : Ending) : Prop := ∃ A c, e = .returned (.agg #[.int .i64 spin, .int .u64 most, .slice A D.length c]) ∧ D.length ≤ c ∧ c ≤ 9223372036854775807 ∧ Row w' w.heap.size (.slice A D.length c) D ∧ Below w.heap.size w w'
set_option maxRecDepth 100000 in
set_option maxHeartbeats 4000000 in
theorem otherC_any {w : World} (spin most : Int) {b2 : Nat} {A : Option Addr} {D : List Nat} (c : Nat) (hr : Rd w b2 A D) (hb2 : b2 ≤ w.heap.size) (hl : D.length ≤ 1000000) :
    Calls Tryz.prog 7 #[.agg #[.int .i64 spin, .int .u64 most, .slice A D.length c]] w fun e w' => OthC w w' spin most D e := by
  have hbw : Below w.heap.size w ((w.alloc (.cells #[.int .i64 spin, .int .u64 most, .slice A D.length c] 25)).alloc (.cells #[.int .i64 0, .int .u64 0, .slice none 0 0] 35)) := ((Below.refl _ _).alloc (Nat.le_refl _) _).alloc (by simp) _
  have h0 := heap_alloc_new w (.cells #[.int .i64 spin, .int .u64 most, .slice A D.length c] 25)
  have h1 := heap_alloc_new (w.alloc (.cells #[.int .i64 spin, .int .u64 most, .slice A D.length c] 25)) (.cells #[.int .i64 0, .int .u64 0, .slice none 0 0] 35)
  have h0' : ((w.alloc (.cells #[.int .i64 spin, .int .u64 most, .slice A D.length c] 25)).alloc (.cells #[.int .i64 0, .int .u64 0, .slice none 0 0] 35)).heap[w.heap.size]? = _ := (((Below.refl _ (w.alloc (.cells #[.int .i64 spin, .int .u64 most, .slice A D.length c] 25))).alloc (Nat.le_refl _) (.cells #[.int .i64 0, .int .u64 0, .slice none 0 0] 35)).block w.heap.size (by simp)).trans h0
  obtain ⟨B0, hB0⟩ : ∃ B0, B0 = w.heap.size := ⟨_, rfl⟩
  have hs : (w.alloc (.cells #[.int .i64 spin, .int .u64 most, .slice A D.length c] 25)).heap.size = w.heap.size + 1 := by simp
  rw [hs] at h1
  have hlt : w.heap.size + 1 < ((w.alloc (.cells #[.int .i64 spin, .int .u64 most, .slice A D.length c] 25)).alloc (.cells #[.int .i64 0, .int .u64 0, .slice none 0 0] 35)).heap.size := (Array.getElem?_eq_some_iff.1 h1).1
  have HR := Lib.hid (hr.below hbw hb2); have HBW := Lib.hid hbw; have HL := Lib.hid hl; have HB2 := Lib.hid hb2
  have HLE : Hid (w.heap.size ≤ w.heap.size + 1) := Lib.hid (Nat.le_succ _)
  rw [← hB0] at h0' h1 hlt
  have H0 := Lib.hid h0'; have H1 := Lib.hid h1; have HLT := Lib.hid hlt; have HB0 := Lib.hid hB0
  have HFN : Hid (∀ (w4 : World) (A3 : Option Addr) (cap3 k : Nat), w.heap.size ≤ k → Row w4 k (.slice A3 D.length cap3) D → Below w.heap.size w w4 → OthC w w4 spin most D (.returned (.agg #[.int .i64 spin, .int .u64 most, .slice A3 D.length cap3]))) := Lib.hid (fun w4 A3 cap3 k hk hr4 hb4 => by
    obtain ⟨A', c', e1, e2, e3, e4, e5⟩ := hr4
    injection e1 with e1 _ e1'
    subst e1 e1'
    exact ⟨A3, cap3, rfl, e2, by unfold maxLen at e3; omega, ⟨A3, cap3, rfl, e2, e3, e4, fun ad ha => by
      obtain ⟨g, o, h1, h2, h3⟩ := e5 ad ha
      exact ⟨g, o, h1, by omega, h3⟩⟩, hb4⟩)
  have HSZ : Hid (w.heap.size ≤ ((w.alloc (.cells #[.int .i64 spin, .int .u64 most, .slice A D.length c] 25)).alloc (.cells #[.int .i64 0, .int .u64 0, .slice none 0 0] 35)).heap.size) := Lib.hid hbw.size
  clear hbw h0 h1 h0' hs hlt hr hb2 hl hB0
  go_enter Tryz.func7, Tryz.ntmps7
  go_upto_region 1 with (fail)
  have hw1 : ∃ B1, B1 = w.heap.size + 1 := ⟨_, rfl⟩
  obtain ⟨B1, hB1⟩ := hw1
  rw [← HB0.out]
  have H1' : Hid (((w.alloc (.cells #[.int .i64 spin, .int .u64 most, .slice A D.length c] 25)).alloc (.cells #[.int .i64 0, .int .u64 0, .slice none 0 0] 35)).heap[B1]? = some (.cells #[.int .i64 0, .int .u64 0, .slice none 0 0] 35)) := Lib.hid (by rw [hB1, ← HB0.out]; exact H1.out)
  have HLE2 : Hid (w.heap.size ≤ B1) := Lib.hid (by omega)
  have HLT2 : Hid (B1 < ((w.alloc (.cells #[.int .i64 spin, .int .u64 most, .slice A D.length c] 25)).alloc (.cells #[.int .i64 0, .int .u64 0, .slice none 0 0] 35)).heap.size) := Lib.hid (by rw [hB1, ← HB0.out]; exact HLT.out)
  rw [show B0 + 1 = B1 by rw [hB1, ← HB0.out]]
  have HNE : Hid (¬ B0 = B1) := Lib.hid (by rw [hB1, ← HB0.out]; omega)
  clear hB1 H1 HLT HLE HB0
  generalize (w.alloc (.cells #[.int .i64 spin, .int .u64 most, .slice A D.length c] 25)).alloc (.cells #[.int .i64 0, .int .u64 0, .slice none 0 0] 35) = w1 at *
  have HC0 : Hid (∀ W, Below w1.heap.size w1 W → W.cell? ⟨B0, 0, none⟩ = some (.int .i64 spin) ∧ W.cell? ⟨B0, 1, none⟩ = some (.int .u64 most) ∧ W.cell? ⟨B0, 2, none⟩ = some (.slice A D.length c)) := Lib.hid (fun W q => ⟨(q.cell (p := ⟨B0, 0, none⟩) (Array.getElem?_eq_some_iff.1 H0.out).1).trans (cell_row H0.out 0), (q.cell (p := ⟨B0, 1, none⟩) (Array.getElem?_eq_some_iff.1 H0.out).1).trans (cell_row H0.out 1), (q.cell (p := ⟨B0, 2, none⟩) (Array.getElem?_eq_some_iff.1 H0.out).1).trans (cell_row H0.out 2)⟩)
  have HZ : Hid (∀ W, Below w1.heap.size w1 W → W.cell? ⟨B1, 0, none⟩ = some (.int .i64 0) ∧ W.cell? ⟨B1, 1, none⟩ = some (.int .u64 0) ∧ W.cell? ⟨B1, 2, none⟩ = some (.slice none 0 0) ∧ W.frozen? ⟨B1, 0, none⟩ = false ∧ W.frozen? ⟨B1, 1, none⟩ = false ∧ W.frozen? ⟨B1, 2, none⟩ = false) := Lib.hid (fun W q => by
    have hb : W.heap[B1]? = _ := (q.block B1 HLT2.out).trans H1'.out
    exact ⟨cell_row hb 0, cell_row hb 1, cell_row hb 2, froz_row hb 0, froz_row hb 1, froz_row hb 2⟩)
  refine wp_region_held_drew (S := fun w' => w'.cell? ⟨B0, 0, none⟩ = some (.int .i64 spin) ∧ w'.cell? ⟨B0, 1, none⟩ = some (.int .u64 most) ∧ w'.cell? ⟨B0, 2, none⟩ = some (.slice A D.length c)) (by kernel_rfl) ?_ (fun hHeld => ?_)
  · exact HC0.out _ ((Below.refl _ _).drew)
  refine wpAnyH_take (i := 0) (oi := ({ dst := some 3, op := Op.fieldAddr 25 (Operand.tmp 1) 0, type := 0, pos := "help.go:26", after := #[], guard := none } : Oper)) (v := ?vax1) rfl (by kernel_rfl) (by kernel_rfl) (by kernel_rfl) (fun _ _ _ h => h) (Or.inl ⟨by rfl, fun w hSw => ?hyax1⟩) (by assumption) ?rax1
  case hyax1 => (try dsimp only at hSw); go_simp; (try with_reducible rfl)
  (try simp only [Act.put, List.setIfInBounds_toArray, List.set_cons_zero, List.set_cons_succ])
  refine wpAnyH_take (i := 1) (oi := ({ dst := some 4, op := Op.load 3 (Operand.tmp 3), type := 3, pos := "help.go:26", after := #[{ on := 0, ground := Ground.data }], guard := none } : Oper)) (v := ?vax2) rfl (by kernel_rfl) (by kernel_rfl) (by kernel_rfl) (fun _ _ _ h => h) (Or.inl ⟨by rfl, fun w hSw => ?hyax2⟩) (by assumption) ?rax2
  case hyax2 => (try dsimp only at hSw); go_simp; (try with_reducible rfl)
  (try simp only [Act.put, List.setIfInBounds_toArray, List.set_cons_zero, List.set_cons_succ])
  refine wpAnyH_take (i := 2) (oi := ({ dst := some 5, op := Op.fieldAddr 25 (Operand.tmp 1) 1, type := 0, pos := "help.go:26", after := #[], guard := none } : Oper)) (v := ?vax3) rfl (by kernel_rfl) (by kernel_rfl) (by kernel_rfl) (fun _ _ _ h => h) (Or.inl ⟨by rfl, fun w hSw => ?hyax3⟩) (by assumption) ?rax3
  case hyax3 => (try dsimp only at hSw); go_simp; (try with_reducible rfl)
  (try simp only [Act.put, List.setIfInBounds_toArray, List.set_cons_zero, List.set_cons_succ])
  refine wpAnyH_take (i := 3) (oi := ({ dst := some 6, op := Op.load 22 (Operand.tmp 5), type := 22, pos := "help.go:26", after := #[{ on := 2, ground := Ground.data }], guard := none } : Oper)) (v := ?vax4) rfl (by kernel_rfl) (by kernel_rfl) (by kernel_rfl) (fun _ _ _ h => h) (Or.inl ⟨by rfl, fun w hSw => ?hyax4⟩) (by assumption) ?rax4
  case hyax4 => (try dsimp only at hSw); go_simp; (try with_reducible rfl)
  (try simp only [Act.put, List.setIfInBounds_toArray, List.set_cons_zero, List.set_cons_succ])
  refine wpAnyH_take (i := 4) (oi := ({ dst := some 7, op := Op.fieldAddr 25 (Operand.tmp 1) 2, type := 0, pos := "help.go:26", after := #[], guard := none } : Oper)) (v := ?vax5) rfl (by kernel_rfl) (by kernel_rfl) (by kernel_rfl) (fun _ _ _ h => h) (Or.inl ⟨by rfl, fun w hSw => ?hyax5⟩) (by assumption) ?rax5
  case hyax5 => (try dsimp only at hSw); go_simp; (try with_reducible rfl)
  (try simp only [Act.put, List.setIfInBounds_toArray, List.set_cons_zero, List.set_cons_succ])
  refine wpAnyH_take (i := 5) (oi := ({ dst := some 8, op := Op.load 23 (Operand.tmp 7), type := 23, pos := "help.go:26", after := #[{ on := 4, ground := Ground.data }], guard := none } : Oper)) (v := ?vax6) rfl (by kernel_rfl) (by kernel_rfl) (by kernel_rfl) (fun _ _ _ h => h) (Or.inl ⟨by rfl, fun w hSw => ?hyax6⟩) (by assumption) ?rax6
  case hyax6 => (try dsimp only at hSw); go_simp; (try with_reducible rfl)
  (try simp only [Act.put, List.setIfInBounds_toArray, List.set_cons_zero, List.set_cons_succ])
  refine wpAnyH_ready (rs := [6]) (by kernel_rfl) (by simp) ?_
  refine AllReadyH.cons (o := ({ dst := some 9, op := Op.call { callee := Callee.builtin Builtin.append, args := #[Operand.const (Value.slice none 0 0), Operand.tmp 8], argTypes := #[23, 23] }, type := 23, pos := "help.go:26", after := #[{ on := 5, ground := Ground.data }], guard := none } : Oper)) rfl (fun Kq hKq => ?_) AllReadyH.nil
  refine step_append_row (base := w1.heap.size) (v := .slice none 0 0) (D := []) rfl _ _ rfl (by rfl) (row_nil _ _) (Nat.le_refl _) c (by rfl) (rfl : D.length = D.length) HR.out (by simp; exact HL.out) ?_; intro v3 w3 hr3 ht3 ho3; rw [List.nil_append] at hr3; obtain ⟨A3, cap3, hv3⟩ := hr3.shape; subst hv3
  have hb3 : Below w1.heap.size w1 w3 := (Below.refl _ w1).drew.trans (ht3.below (Nat.le_refl _) (fun k _ e => by cases e))
  have HB3 := Lib.hid hb3; have HR3 := Lib.hid hr3
  clear hb3 hr3 ht3 ho3
  refine hKq.out _ _ ?_ (fun hHeld => ?_)
  · exact HC0.out _ HB3.out
  clear hKq Kq
  (try simp only [Act.put, List.setIfInBounds_toArray, List.set_cons_zero, List.set_cons_succ])
  refine wpAnyH_take (i := 7) (oi := ({ dst := some 10, op := Op.build 35 #[(0, Operand.tmp 4), (1, Operand.tmp 6), (2, Operand.tmp 9)], type := 35, pos := "help.go:26", after := #[{ on := 1, ground := Ground.data }, { on := 3, ground := Ground.data }, { on := 6, ground := Ground.data }], guard := none } : Oper)) (v := ?vax7) rfl (by kernel_rfl) (by kernel_rfl) (by kernel_rfl) (fun _ _ _ h => h) (Or.inl ⟨by rfl, fun w hSw => ?hyax7⟩) (by assumption) ?rax7
  case hyax7 => (try dsimp only at hSw); go_simp; (try with_reducible rfl)
  (try simp only [Act.put, List.setIfInBounds_toArray, List.set_cons_zero, List.set_cons_succ])
  refine wpAnyH_ready (rs := [8]) (by kernel_rfl) (by simp) ?_
  refine AllReadyH.cons (o := ({ dst := none, op := Op.store 35 (Operand.tmp 2) (Operand.tmp 10), type := 0, pos := "help.go:26", after := #[{ on := 7, ground := Ground.data }, { on := 6, ground := Ground.chain }, { on := 0, ground := Ground.phase }, { on := 1, ground := Ground.phase }, { on := 2, ground := Ground.phase }, { on := 3, ground := Ground.phase }, { on := 4, ground := Ground.phase }, { on := 5, ground := Ground.phase }, { on := 6, ground := Ground.phase }, { on := 7, ground := Ground.phase }], guard := none } : Oper)) rfl (fun Kq hKq => ?_) AllReadyH.nil
  obtain ⟨z0, z1, z2, f0, f1, f2⟩ := HZ.out _ HB3.out
  go_simp
  have HB4 : Hid (Below w.heap.size w (((w3.setCell ⟨B1, 0, none⟩ (.int .i64 spin)).setCell ⟨B1, 1, none⟩ (.int .u64 most)).setCell ⟨B1, 2, none⟩ (.slice A3 D.length cap3))) := Lib.hid ((((HBW.out.trans (HB3.out.mono HBW.out.size)).setCell (p := ⟨B1, 0, none⟩) HLE2.out _).setCell (p := ⟨B1, 1, none⟩) HLE2.out _).setCell (p := ⟨B1, 2, none⟩) HLE2.out _)
  have HR4 : Hid (Row (((w3.setCell ⟨B1, 0, none⟩ (.int .i64 spin)).setCell ⟨B1, 1, none⟩ (.int .u64 most)).setCell ⟨B1, 2, none⟩ (.slice A3 D.length cap3)) w1.heap.size (.slice A3 D.length cap3) D) := Lib.hid (HR3.out.keep ((((Turns.refl (fun k => k = B1) w3).setCell ⟨B1, 0, none⟩ _ rfl).setCell ⟨B1, 1, none⟩ _ rfl).setCell ⟨B1, 2, none⟩ _ rfl) (fun g hg e => by have := (HR3.out.lt g hg).1; have := HLT2.out; omega))
  have hb3 : w3.heap[B1]? = some (.cells #[.int .i64 0, .int .u64 0, .slice none 0 0] 35 (0, 0)) := (HB3.out.block B1 HLT2.out).trans H1'.out
  have h4 : (((w3.setCell ⟨B1, 0, none⟩ (.int .i64 spin)).setCell ⟨B1, 1, none⟩ (.int .u64 most)).setCell ⟨B1, 2, none⟩ (.slice A3 D.length cap3)).heap[B1]? = some (.cells #[.int .i64 spin, .int .u64 most, .slice A3 D.length cap3] 35 (0, 0)) := by simp [World.setCell, Array.getElem?_modify, hb3]
  have h40 : (((w3.setCell ⟨B1, 0, none⟩ (.int .i64 spin)).setCell ⟨B1, 1, none⟩ (.int .u64 most)).setCell ⟨B1, 2, none⟩ (.slice A3 D.length cap3)).heap[B0]? = w3.heap[B0]? := ((((Turns.refl (fun k => k = B1) w3).setCell ⟨B1, 0, none⟩ _ rfl).setCell ⟨B1, 1, none⟩ _ rfl).setCell ⟨B1, 2, none⟩ _ rfl).block B0 (Nat.lt_of_lt_of_le (Array.getElem?_eq_some_iff.1 H0.out).1 HB3.out.size) HNE.out
  have h41 := h40.trans ((HB3.out.block B0 (Array.getElem?_eq_some_iff.1 H0.out).1).trans H0.out)
  have d0 := cell_row h4 0; have d1 := cell_row h4 1; have d2 := cell_row h4 2
  have S0 := cell_row h41 0; have S1 := cell_row h41 1; have S2 := cell_row h41 2
  clear h4 h40 h41 hb3
  simp only [List.getElem?_toArray, List.getElem?_cons_zero, List.getElem?_cons_succ] at d0 d1 d2 S0 S1 S2
  clear z0 z1 z2 f0 f1 f2
  generalize (((w3.setCell ⟨B1, 0, none⟩ (.int .i64 spin)).setCell ⟨B1, 1, none⟩ (.int .u64 most)).setCell ⟨B1, 2, none⟩ (.slice A3 D.length cap3)) = w4 at *
  refine hKq.out _ _ ?_ (fun hHeld => ?_)
  · exact ⟨S0, S1, S2⟩
  clear hKq Kq
  (try simp only [Act.put, List.setIfInBounds_toArray, List.set_cons_zero, List.set_cons_succ])
  refine wpAnyH_done (by kernel_rfl) ?_ _
  clear hHeld S0 S1 S2
  go_wp2_with fail
  exact bodyPost_ret (v := .agg #[.int .i64 spin, .int .u64 most, .slice A3 D.length cap3]) (by simp [results, Tryz.results7, go_sem, d0, d1, d2]) rfl (HFN.out _ _ _ _ HBW.out.size HR4.out HB4.out)
end Go.Proofs.YthafnphpcdbnlaaGreatDoor.S3
set_option linter.unusedVariables false
set_option linter.unusedSimpArgs false
namespace Go.Proofs.YthafnphpcdbnlaaGreatDoor.S10
open Go.Proofs.YthafnphpcdbnlaaGreatDoor
open Go.RowKit

section
variable {M : Int → List Bk} {N : Nat}
end
end Go.Proofs.YthafnphpcdbnlaaGreatDoor.S10
set_option linter.unusedVariables false
set_option linter.unusedSimpArgs false
namespace Go.Proofs.YthafnphpcdbnlaaGreatDoor.S4
open Go.Proofs.YthafnphpcdbnlaaGreatDoor Go.Proofs.YthafnphpcdbnlaaGreatDoor.S11
open Go.RowKit

/-- A park: what a parker is behind it, and what it tells. -/
def parkK (x : Pk) : Pk := if x.p then pk0 else ⟨false, true, false, 0⟩
/-- May whoever is at it go on, by the document? -/
def rgoesB (x : Pk) (now : Nat) : Bool := !x.a || x.p || (x.o && decide (x.t ≤ now))
set_option maxRecDepth 100000 in
theorem rgoes_yes {w : World} {B : Nat} {f : Nat → Pk} {n kd pk : Int} (h : RPkAt w B f n kd pk) {i : Nat} (hi : i < 128) (now : Nat) :
    Calls Tryz.prog 34 #[Pt B, .int .i64 (i : Int), .int .u64 (now : Int)] w fun e w' => e = .returned (.bool (rgoesB (f i) now)) ∧ Below w.heap.size w w' := by
  have h1 : decide ((i : Int) < 0) = false := by simp
  have h2 : decide ((127 : Int) < (i : Int)) = false := by simp; omega
  have h3 : (i : Int) < 128 := by omega
  have c0 := h.c0 i hi; have c1 := h.c1 i hi; have c2 := h.c2 i hi; have c3 := h.c3 i hi
  have HB : ∀ a : Array Value, Below w.heap.size w (w.alloc (.cells a 81)) := fun a => (Below.refl _ _).alloc (Nat.le_refl _) _
  have HBB := Lib.hid HB
  clear h hi HB
  generalize f i = x at *
  obtain ⟨p, a, o, t⟩ := x
  dsimp only at c0 c1 c2 c3
  unfold rgoesB
  dsimp only
  cases a
  · go_enter Tryz.func34, Tryz.ntmps34
    go_wp2_with fail
    go_ret
    exact ⟨rfl, HBB.out _⟩
  · cases p
    · cases o
      · go_enter Tryz.func34, Tryz.ntmps34
        go_wp2_with fail
        go_ret
        exact ⟨rfl, HBB.out _⟩
      · by_cases ht : t ≤ now
        · rw [decide_eq_true ht]
          go_enter Tryz.func34, Tryz.ntmps34
          go_wp2_with fail
          go_ret
          exact ⟨by simp [ht], HBB.out _⟩
        · rw [decide_eq_false ht]
          go_enter Tryz.func34, Tryz.ntmps34
          go_wp2_with fail
          go_ret
          exact ⟨by simp [ht], HBB.out _⟩
    · go_enter Tryz.func34, Tryz.ntmps34
      go_wp2_with fail
      go_ret
      exact ⟨rfl, HBB.out _⟩
/-- Who is not asleep has no deadline. -/
def PkOk (f : Nat → Pk) : Prop := ∀ i, (f i).a = false → (f i).o = false ∧ (f i).t = 0
theorem goes_both {x : Pk} (h : x.a = false → x.o = false ∧ x.t = 0) (now : Nat) : rgoesB x now = goesB x now := by
  obtain ⟨p, a, o, t⟩ := x
  unfold rgoesB goesB pk0
  dsimp only at h ⊢
  cases a
  · obtain ⟨rfl, rfl⟩ := h rfl
    cases p <;> simp
  · cases p <;> simp
theorem PkOk.upd {f : Nat → Pk} (h : PkOk f) {i : Nat} {x : Pk} (hx : x.a = false → x.o = false ∧ x.t = 0) : PkOk (updP f i x) := fun j hj => by
  unfold updP at hj ⊢
  split
  · rename_i e; rw [if_pos e] at hj; exact hx hj
  · rename_i e; rw [if_neg e] at hj; exact h j hj
theorem pkok0 : PkOk (fun _ => pk0) := fun _ _ => ⟨rfl, rfl⟩
end Go.Proofs.YthafnphpcdbnlaaGreatDoor.S4
