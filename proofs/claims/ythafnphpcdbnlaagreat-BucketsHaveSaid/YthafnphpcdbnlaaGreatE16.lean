/- Texts of this seat, one behind the other. -/
import Derived.Test.YthafnphpcdbnlaaGreatE10
import Derived.WalkMore
import Derived.ScopeJumps
import Derived.RegionTactic
import Derived.StillTailTactics
set_option linter.unusedVariables false
set_option linter.unusedSimpArgs false
namespace Go.Proofs.YthafnphpcdbnlaaGreat.S5
open Go.Proofs.YthafnphpcdbnlaaGreat
open Go.RowKit

/-- The way to the tail, so many steps at most: the links then, and where it ends; none: there was no next one. -/
def go : Nat → Lk → Nat → Lk × Option Nat
  | 0, S, a => (S, some a)
  | n + 1, S, a => if S (a * 3 + 2) = 0 then (if S (a * 3) = 0 then (S, none) else go n (upd S ((S (a * 3) - 1) * 3 + 1) (a + 1)) (S (a * 3) - 1)) else (S, some a)
/-- What Seek leaves, and one more than what it tells. -/
def closeS (t : Nat) : Lk × Option Nat → Lk × Nat
  | (S, none) => (S, 0)
  | (S, some a) => (upd S (t * 3 + 2) (S (a * 3 + 2)), S (a * 3 + 2))
def seekS (S : Lk) (t : Nat) : Lk × Nat := closeS t (go 64 S t)
/-- What a seek ends as. -/
def Sought (w : World) (B : Nat) (R : Lk × Nat) (e : Ending) (w' : World) : Prop := e = .returned (.int .i64 ((R.2 : Int) - 1)) ∧ Has w' B R.1 ∧ Turns (fun k => k = B) w w'
theorem go_stop {S : Lk} {a : Nat} (n : Nat) (h : S (a * 3 + 2) ≠ 0 ∨ n = 0) : go n S a = (S, some a) := by
  cases n with
  | zero => rfl
  | succ n => rw [go, if_neg (by omega)]
theorem go_none {S : Lk} {a : Nat} (n : Nat) (h : S (a * 3 + 2) = 0) (h0 : S (a * 3) = 0) : go (n + 1) S a = (S, none) := by
  rw [go, if_pos h, if_pos h0]
theorem go_on {S : Lk} {a x : Nat} (n : Nat) (h : S (a * 3 + 2) = 0) (h0 : S (a * 3) = x + 1) : go (n + 1) S a = go n (upd S (x * 3 + 1) (a + 1)) x := by
  rw [go, if_pos h, if_neg (by omega), h0, Nat.add_sub_cancel]
def Jump (w : World) (B : Nat) (S : Lk) (t : Nat) (a' : Act) (w' : World) : Prop :=
  ∃ (n g at_ : Nat) (S' : Lk) (u7 u12 u13 u14 u15 u16 u17 u18 u19 u20 u21 u22 u23 u24 u25 u26 u27 u28 u29 u30 u31 u32 u33 u34 u35 u36 u37 u38 u39 u40 u41 u42 u43 u44 u45 : Value), a' = { tmps := #[Pt B, .int .i64 (t : Int), undef, undef, .int .i64 0, .int .i64 (at_ : Int), .int .i64 (g : Int), u7, Pt B, .int .i64 (t : Int), .bool true, .bool false, u12, u13, u14, u15, u16, u17, u18, u19, u20, u21, u22, u23, u24, u25, u26, u27, u28, u29, u30, u31, u32, u33, u34, u35, u36, u37, u38, u39, u40, u41, u42, u43, u44, u45, undef, undef, undef, undef, undef, undef, undef, undef, undef, undef, undef, undef, undef, undef, undef, undef, undef, undef, undef, undef, undef], defers := [] } ∧ g + n = 64 ∧ at_ < 64 ∧ Has w' B S' ∧ go n S' at_ = go 64 S t ∧ Turns (fun k => k = B) w w'
theorem Has.read {w : World} {B : Nat} {S : Lk} (h : Has w B S) {i v : Nat} (hi : i < 192) (e : S i = v) : w.cell? ⟨B, i, none⟩ = some (.int .i64 (v : Nat)) := by rw [← e]; exact h.cell i hi
theorem Sought.mk {w0 w : World} {B t a x : Nat} {S : Lk} {e : Ending} {w' : World} {P : Lk × Option Nat} (ha : a < 64) (ht : t < 64) (h : Has w B S) (ht0 : Turns (fun k => k = B) w0 w) (hg : P = (S, some a)) (hx : S (a * 3 + 2) = x) (he : e = .returned (.int .i64 ((x : Int) - 1))) (hw : w' = w.setCell ⟨B, t * 3 + 2, none⟩ (.int .i64 (x : Nat)) ∨ w' = (w.setCell ⟨B, t * 3 + 2, none⟩ (.int .i64 (x : Nat))).drew) :
    Sought w0 B (closeS t P) e w' := by
  subst hg
  subst hx
  have h1 := h.set (i := t * 3 + 2) (by omega) (h.le (a * 3 + 2))
  have t1 := ht0.setCell ⟨B, t * 3 + 2, none⟩ (.int .i64 (S (a * 3 + 2) : Nat)) rfl
  rcases hw with rfl | rfl
  · exact ⟨he, h1, t1⟩
  · exact ⟨he, h1.drew, t1.drew⟩
theorem Sought.none {w0 w : World} {B t : Nat} {S : Lk} {P : Lk × Option Nat} (h : Has w B S) (ht0 : Turns (fun k => k = B) w0 w) (hg : P = (S, Option.none)) : Sought w0 B (closeS t P) (.returned (.int .i64 (-1))) w := by
  subst hg
  exact ⟨rfl, h, ht0⟩
theorem seek_yes {w : World} {B : Nat} {S : Lk} (h : Has w B S) (t : Nat) (ht : t < 64) : Calls Tryz.prog 61 #[Pt B, .int .i64 (t : Int)] w (Sought w B (seekS S t)) := by
  have hh := has_yes B t ht
  have HH := Lib.hid hh; have H := Lib.hid h
  clear hh h
  go_enter Tryz.func61, Tryz.ntmps61
  go_wp2_with fail
  refine wp_scope_jumps 0 (Jump w B S t) (fun a' _ => (64 - (intOf (a'.tmps.getD 6 undef)).toNat)) rfl ?_ ?_
  · have H2 := Lib.hid H.out
    have c2 := H.out.cell (t * 3 + 2) (by omega)
    have f2 := H.out.froz (t * 3 + 2) (by omega)
    have l2 := H.out.le (t * 3 + 2)
    have HT := Lib.hid (Turns.refl (fun k => k = B) w)
    obtain ⟨x, hx⟩ : ∃ x, S (t * 3 + 2) = x := ⟨_, rfl⟩
    have HX := Lib.hid hx
    rw [hx] at c2 l2
    clear hx
    go_wp2_with fail
    refine (HH.out _).mono ?_
    rintro e w' ⟨rfl, rfl⟩
    go_wp2_with fail
    go_step3
    by_cases hx0 : x = 0
    · subst hx0
      have c0 := H2.out.cell (t * 3) (by omega)
      have l0 := H2.out.le (t * 3)
      obtain ⟨y, hy⟩ : ∃ y, S (t * 3) = y := ⟨_, rfl⟩
      have HY := Lib.hid hy
      rw [hy] at c0 l0
      clear hy
      cases y with
      | zero =>
        go_wp2_with fail
        (try simp only [Exit.jump])
        go_ret
        exact Sought.none H2.out HT.out ((go_none 63 HX.out HY.out))
      | succ z =>
        have cz := H2.out.cell (z * 3 + 1) (by omega)
        have fz := H2.out.froz (z * 3 + 1) (by omega)
        have ez : ((z + 1 : Nat) : Int) = (z : Int) + 1 := by omega
        have en : ((z : Int) == -1) = false := by rw [beq_eq_false_iff_ne]; omega
        rw [ez] at c0
        have EZ := Lib.hid ez
        clear ez
        go_wp2_with fail
        go_step3
        refine ⟨rfl, ⟨63, 1, z, upd S (z * 3 + 1) (t + 1), _, _, _, _, _, _, _, _, _, _, _, _, _, _, _, _, _, _, _, _, _, _, _, _, _, _, _, _, _, _, _, _, _, _, _, rfl, by omega, by omega, H2.out.set (i := z * 3 + 1) (v := t + 1) (by omega) (by omega), ?_, HT.out.setCell _ _ rfl⟩⟩
        · exact ((go_on 63 HX.out HY.out)).symm
    · have e1 : ((x : Int) == 0) = false := by rw [beq_eq_false_iff_ne]; omega
      go_wp2_with fail
      go_region
      all_goals
        go_wp2_with fail
        (try simp only [Exit.jump])
        go_ret
        exact Sought.mk ht ht H2.out HT.out ((go_stop 64 (.inl (by rw [HX.out]; exact hx0)))) HX.out rfl (.inr rfl)
  · rintro a' wv ⟨n, g, at_, S', u7, u12, u13, u14, u15, u16, u17, u18, u19, u20, u21, u22, u23, u24, u25, u26, u27, u28, u29, u30, u31, u32, u33, u34, u35, u36, u37, u38, u39, u40, u41, u42, u43, u44, u45, rfl, hgn, hat, hhas, hgo, htu⟩
    have H2 := Lib.hid hhas; have HG := Lib.hid hgo; have HT := Lib.hid htu
    have c2 := hhas.cell (at_ * 3 + 2) (by omega)
    have f2 := hhas.froz (t * 3 + 2) (by omega)
    have ct := hhas.cell (t * 3 + 2) (by omega)
    have l2 := hhas.le (at_ * 3 + 2)
    clear hhas hgo htu
    obtain ⟨x, hx⟩ : ∃ x, S' (at_ * 3 + 2) = x := ⟨_, rfl⟩
    have HX := Lib.hid hx
    rw [hx] at c2 l2
    clear hx
    by_cases hx0 : x = 0
    · subst hx0
      cases n with
      | zero =>
        obtain rfl : g = 64 := by omega
        go_wp2_with fail
        go_region
        all_goals
          go_wp2_with fail
          (try simp only [Exit.jump])
          go_ret
          exact Sought.mk hat ht H2.out HT.out (HG.out.symm.trans (go_stop _ (.inr rfl))) HX.out rfl (.inr rfl)
      | succ n =>
        have e2 : decide ((g : Int) < 64) = true := by simp; omega
        have c0 := H2.out.cell (at_ * 3) (by omega)
        have l0 := H2.out.le (at_ * 3)
        obtain ⟨y, hy⟩ : ∃ y, S' (at_ * 3) = y := ⟨_, rfl⟩
        have HY := Lib.hid hy
        rw [hy] at c0 l0
        clear hy
        cases y with
        | zero =>
          go_wp2_with fail
          (try simp only [Exit.jump])
          go_ret
          exact Sought.none H2.out HT.out (HG.out.symm.trans (go_none n HX.out HY.out))
        | succ z =>
          have cz := H2.out.cell (z * 3 + 1) (by omega)
          have fz := H2.out.froz (z * 3 + 1) (by omega)
          have ez : ((z + 1 : Nat) : Int) = (z : Int) + 1 := by omega
          have en : ((z : Int) == -1) = false := by rw [beq_eq_false_iff_ne]; omega
          rw [ez] at c0
          have EZ := Lib.hid ez
          clear ez
          go_wp2_with fail
          go_step3
          refine ⟨rfl, ⟨⟨n, g + 1, z, upd S' (z * 3 + 1) (at_ + 1), _, _, _, _, _, _, _, _, _, _, _, _, _, _, _, _, _, _, _, _, _, _, _, _, _, _, _, _, _, _, _, _, _, _, _, rfl, by omega, by omega, H2.out.set (i := z * 3 + 1) (v := at_ + 1) (by omega) (by omega), ?_, HT.out.setCell _ _ rfl⟩, ?_⟩⟩
          · exact (HG.out.symm.trans (go_on n HX.out HY.out)).symm
          · simp [intOf]; omega
    · have e1 : ((x : Int) == 0) = false := by rw [beq_eq_false_iff_ne]; omega
      go_wp2_with fail
      go_region
      all_goals
        go_wp2_with fail
        (try simp only [Exit.jump])
        go_ret
        exact Sought.mk hat ht H2.out HT.out (HG.out.symm.trans (go_stop n (.inl (by rw [HX.out]; exact hx0)))) HX.out rfl (.inr rfl)
end Go.Proofs.YthafnphpcdbnlaaGreat.S5
namespace Go.Proofs.YthafnphpcdbnlaaGreat.S5
open Go.Proofs.YthafnphpcdbnlaaGreat
open Go.RowKit

theorem seek_no {w : World} {B : Nat} (x : Int) (hx : notT x) : Calls Tryz.prog 61 #[Pt B, .int .i64 x] w fun e w' => e = .returned (.int .i64 (-1)) ∧ w = w' := by
  have hh := has_no B x hx
  have HH := Lib.hid hh
  clear hh
  go_enter Tryz.func61, Tryz.ntmps61
  go_wp2_with fail
  go_step3
  go_wp2_with fail
  refine (HH.out _).mono ?_
  rintro e w' ⟨rfl, rfl⟩
  go_wp2_with fail
  rw [Exit.noGoto_ret]
  go_ret
  exact ⟨rfl, rfl⟩
theorem seek_nil {w : World} (x : Int) : Calls Tryz.prog 61 #[.pointer none, .int .i64 x] w fun e w' => e = .returned (.int .i64 (-1)) ∧ w = w' := by
  have hh := has_nil x
  have HH := Lib.hid hh
  clear hh
  go_enter Tryz.func61, Tryz.ntmps61
  go_wp2_with fail
  go_step3
  go_wp2_with fail
  refine (HH.out _).mono ?_
  rintro e w' ⟨rfl, rfl⟩
  go_wp2_with fail
  rw [Exit.noGoto_ret]
  go_ret
  exact ⟨rfl, rfl⟩
def seekO (S : Lk) : Option Nat → Lk × Nat
  | some t => seekS S t
  | none => (S, 0)
theorem seek_any {w : World} {B : Nat} {S : Lk} (h : Has w B S) {x : Int} {o : Option Nat} (hx : Num x o) : Calls Tryz.prog 61 #[Pt B, .int .i64 x] w (Sought w B (seekO S o)) := by
  cases o with
  | none => exact (seek_no x hx).mono fun e w' ⟨he, hw⟩ => by subst hw; exact ⟨he, h, Turns.refl _ _⟩
  | some t => obtain ⟨rfl, ht⟩ := hx; exact seek_yes h t ht
def cutO (S : Lk) : Option Nat → Option Nat → Lk × Nat
  | some h, some t => (if S (t * 3 + 1) = 0 then S else upd S (h * 3 + 2) (S (t * 3 + 1)), S (t * 3 + 1))
  | _, _ => (S, 0)
theorem cut_nil {w : World} (x y : Int) : Calls Tryz.prog 63 #[.pointer none, .int .i64 x, .int .i64 y] w fun e w' => e = .returned (.int .i64 (-1)) ∧ w = w' := by
  have hh := has_nil x
  have HH := Lib.hid hh
  clear hh
  go_enter Tryz.func63, Tryz.ntmps63
  go_wp2_with fail
  refine (HH.out _).mono ?_
  rintro e w' ⟨rfl, rfl⟩
  go_wp2_with fail
  go_ret
  exact ⟨rfl, rfl⟩
theorem cut_no1 {w : World} {B : Nat} (x y : Int) (hx : notT x) : Calls Tryz.prog 63 #[Pt B, .int .i64 x, .int .i64 y] w fun e w' => e = .returned (.int .i64 (-1)) ∧ w = w' := by
  have hh := has_no B x hx
  have HH := Lib.hid hh
  clear hh
  go_enter Tryz.func63, Tryz.ntmps63
  go_wp2_with fail
  refine (HH.out _).mono ?_
  rintro e w' ⟨rfl, rfl⟩
  go_wp2_with fail
  go_ret
  exact ⟨rfl, rfl⟩
theorem cut_no2 {w : World} {B : Nat} (t : Nat) (y : Int) (ht : t < 64) (hy : notT y) : Calls Tryz.prog 63 #[Pt B, .int .i64 (t : Int), .int .i64 y] w fun e w' => e = .returned (.int .i64 (-1)) ∧ w = w' := by
  have hh := has_yes B t ht
  have h2 := has_no B y hy
  have HH := Lib.hid hh; have H2 := Lib.hid h2
  clear hh h2
  go_enter Tryz.func63, Tryz.ntmps63
  go_wp2_with fail
  refine (HH.out _).mono ?_
  rintro e w' ⟨rfl, rfl⟩
  go_wp2_with fail
  refine (H2.out _).mono ?_
  rintro e w' ⟨rfl, rfl⟩
  go_wp2_with fail
  go_ret
  exact ⟨rfl, rfl⟩
theorem cut_zero {S : Lk} {t u : Nat} (h : S (u * 3 + 1) = 0) : cutO S (some t) (some u) = (S, 0) := by rw [cutO, if_pos h, h]
theorem cut_pos {S : Lk} {t u : Nat} (h : S (u * 3 + 1) ≠ 0) : cutO S (some t) (some u) = (upd S (t * 3 + 2) (S (u * 3 + 1)), S (u * 3 + 1)) := by rw [cutO, if_neg h]
theorem cut_yes {w : World} {B : Nat} {S : Lk} (h : Has w B S) (t u : Nat) (ht : t < 64) (hu : u < 64) : Calls Tryz.prog 63 #[Pt B, .int .i64 (t : Int), .int .i64 (u : Int)] w (Sought w B (cutO S (some t) (some u))) := by
  have hh := has_yes B t ht
  have h2 := has_yes B u hu
  have c1 := h.cell (u * 3 + 1) (by omega)
  have c2 := h.cell (t * 3 + 2) (by omega)
  have f2 := h.froz (t * 3 + 2) (by omega)
  have l1 := h.le (u * 3 + 1)
  have HH := Lib.hid hh; have H2 := Lib.hid h2; have H := Lib.hid h
  clear hh h2 h
  obtain ⟨x, hx⟩ : ∃ x, S (u * 3 + 1) = x := ⟨_, rfl⟩
  rw [hx] at c1 l1
  have HX := Lib.hid hx
  clear hx
  by_cases hx0 : x = 0
  · subst hx0
    go_enter Tryz.func63, Tryz.ntmps63
    go_wp2_with fail
    refine (HH.out _).mono ?_
    rintro e w' ⟨rfl, rfl⟩
    go_wp2_with fail
    refine (H2.out _).mono ?_
    rintro e w' ⟨rfl, rfl⟩
    go_wp2_with fail
    go_ret
    rw [cut_zero HX.out]
    exact ⟨rfl, H.out, Turns.refl _ _⟩
  · have e1 : ((x : Int) == 0) = false := by rw [beq_eq_false_iff_ne]; omega
    go_enter Tryz.func63, Tryz.ntmps63
    go_wp2_with fail
    refine (HH.out _).mono ?_
    rintro e w' ⟨rfl, rfl⟩
    go_wp2_with fail
    refine (H2.out _).mono ?_
    rintro e w' ⟨rfl, rfl⟩
    go_wp2_with fail
    go_ret
    rw [cut_pos (by rw [HX.out]; exact hx0), HX.out]
    exact ⟨rfl, H.out.set (by omega) l1, (Turns.refl _ _).setCell _ _ rfl⟩
theorem cut_any {w : World} {B : Nat} {S : Lk} (h : Has w B S) {x y : Int} {a b : Option Nat} (hx : Num x a) (hy : Num y b) : Calls Tryz.prog 63 #[Pt B, .int .i64 x, .int .i64 y] w (Sought w B (cutO S a b)) := by
  cases a with
  | none => exact (cut_no1 x y hx).mono fun e w' ⟨he, hw⟩ => by subst hw; cases b <;> exact ⟨he, h, Turns.refl _ _⟩
  | some t =>
    obtain ⟨rfl, ht⟩ := hx
    cases b with
    | none => exact (cut_no2 t y ht hy).mono fun e w' ⟨he, hw⟩ => by subst hw; exact ⟨he, h, Turns.refl _ _⟩
    | some u => obtain ⟨rfl, hu⟩ := hy; exact cut_yes h t u ht hu
end Go.Proofs.YthafnphpcdbnlaaGreat.S5
namespace Go.Proofs.YthafnphpcdbnlaaGreat.S5
open Go.Proofs.YthafnphpcdbnlaaGreat
open Go.RowKit
def Z192 : Array Value := Array.replicate 192 (.int .i64 0)
theorem zero46 (w : World) : (zeroValue 147).run Tryz.prog w = .ok (.agg Z192) w := by kernel_rfl
/-- No links. -/
def S0 : Lk := fun _ => 0
theorem cell_row {w : World} {B : Nat} {cs : Array Value} {T : TypeId} (h : w.heap[B]? = some (.cells cs T (0, 0))) (o : Nat) : w.cell? ⟨B, o, none⟩ = cs[o]? := by
  simp [World.cell?, h]
theorem froz_row {w : World} {B : Nat} {cs : Array Value} {T : TypeId} (h : w.heap[B]? = some (.cells cs T (0, 0))) (o : Nat) : w.frozen? ⟨B, o, none⟩ = false := by
  simp [World.frozen?, h]
theorem z192 {i : Nat} (hi : i < 192) : Z192[i]? = some (.int .i64 0) := by
  unfold Z192
  rw [Array.getElem?_replicate, if_pos hi]
theorem has_row {w : World} {B : Nat} {T : TypeId} (hb : w.heap[B]? = some (.cells Z192 T (0, 0))) : Has w B S0 :=
  ⟨(Array.getElem?_eq_some_iff.1 hb).1, fun i hi => (cell_row hb i).trans (z192 hi), fun i _ => froz_row hb i, fun _ => Nat.zero_le _⟩
theorem has_zero (w : World) (T : TypeId) : Has (w.alloc (.cells Z192 T)) w.heap.size S0 := has_row (heap_alloc_new w _)
theorem new_any (w : World) : Calls Tryz.prog 36 #[] w fun e w' => e = .returned (Pt w.heap.size) ∧ Has w' w.heap.size S0 ∧ Below w.heap.size w w' := by
  have z := zero46
  go_enter Tryz.func36, Tryz.ntmps36
  go_wp2_with fail
  go_ret
  exact ⟨rfl, has_zero w 147, below1 w _⟩
section
variable {w : World} {B : Nat} {S S' : Lk} {x y v : Int} {o p : Option Nat} {r : Nat}
theorem push_lit (h : Has w B S) (hx : Num x o) (hy : Num y p) (e : pushS S o p = S') : Calls Tryz.prog 94 #[Pt B, .int .i64 x, .int .i64 y] w fun e w' => e = .returned (.tuple #[]) ∧ Sets w w' B S' := by
  subst e; exact push_any h hx hy
theorem seek_lit (h : Has w B S) (hx : Num x o) (e : (seekO S o).1 = S') (hr : (seekO S o).2 = r) (hv : (r : Int) - 1 = v) : Calls Tryz.prog 61 #[Pt B, .int .i64 x] w fun e w' => e = .returned (.int .i64 v) ∧ Sets w w' B S' := by
  subst e; subst hr; subst hv; exact (seek_any h hx).mono fun e w' ⟨he, h1, h2⟩ => ⟨he, h1, h2⟩
theorem cut_lit (h : Has w B S) (hx : Num x o) (hy : Num y p) (e : (cutO S o p).1 = S') (hr : (cutO S o p).2 = r) (hv : (r : Int) - 1 = v) : Calls Tryz.prog 63 #[Pt B, .int .i64 x, .int .i64 y] w fun e w' => e = .returned (.int .i64 v) ∧ Sets w w' B S' := by
  subst e; subst hr; subst hv; exact (cut_any h hx hy).mono fun e w' ⟨he, h1, h2⟩ => ⟨he, h1, h2⟩
end
theorem nm (t : Nat) (h : t < 64) : Num (t : Int) (some t) := ⟨rfl, h⟩
theorem nm1 : Num (-1) none := by unfold Num notT; omega
end Go.Proofs.YthafnphpcdbnlaaGreat.S5
