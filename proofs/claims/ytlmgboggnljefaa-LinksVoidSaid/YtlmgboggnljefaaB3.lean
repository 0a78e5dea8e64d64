/- The document's cut; both sets side by side. -/
import Derived.Test.YtlmgboggnljefaaB2
namespace Go.Proofs.Ytlmgboggnljefaa
open Go.RowKit

def prevO (S : Lk) : Option Nat → Nat
  | some t => S (t * 3 + 1)
  | none => 0
theorem prev_any {w : World} {B : Nat} {S : Lk} (h : Has w B S) {x : Int} {o : Option Nat} (hx : Num x o) : Calls Try.prog 21 #[Pt B, .int .i64 x] w fun e w' => e = .returned (.int .i64 ((prevO S o : Int) - 1)) ∧ Below w.heap.size w w' := by
  cases o with
  | none => exact (prev_no x hx).mono fun e w' ⟨he, hw⟩ => by subst hw; exact ⟨he, Below.refl _ _⟩
  | some t => obtain ⟨rfl, ht⟩ := hx; exact prev_yes h t ht
theorem cutO_zero {S : Lk} {a b : Option Nat} (h : prevO S b = 0 ∨ a = none) : cutO S a b = (S, 0) := by
  cases a with
  | none => cases b <;> rfl
  | some t =>
    cases b with
    | none => rfl
    | some u => exact cut_zero (h.resolve_right (fun e => by cases e))
theorem turns_new {w w' : World} (P : Nat → Prop) (b : Below w.heap.size w w') : Turns P w w' := Turns.of_below b
theorem rcut_any {w : World} {B : Nat} {S : Lk} (h : Has w B S) {x y : Int} {a b : Option Nat} (hx : Num x a) (hy : Num y b) : Calls Try.prog 17 #[Pt B, .int .i64 x, .int .i64 y] w (Sought w B (cutO S a b)) := by
  have hp := prev_any h hy
  have hi := is_any hx
  have hle : prevO S b ≤ 64 := by
    cases b with
    | none => exact Nat.zero_le _
    | some u => exact h.le _
  obtain ⟨p, hpe⟩ : ∃ p, prevO S b = p := ⟨_, rfl⟩
  rw [hpe] at hp hle
  have HP := Lib.hid hp; have HI := Lib.hid hi; have H := Lib.hid h; have HE := Lib.hid hpe; have HX := Lib.hid hx; have HY := Lib.hid hy
  clear hp hi h hpe hx hy
  cases a with
  | none =>
    go_enter Try.func17, Try.ntmps17
    go_wp2_with fail
    refine HP.out.mono ?_
    rintro e w1 ⟨rfl, hb⟩
    have HB := Lib.hid hb
    clear hb
    go_wp2_with fail
    refine (HI.out _).mono ?_
    rintro e w2 ⟨rfl, rfl⟩
    go_wp2_with fail
    go_ret
    rw [cutO_zero (.inr rfl)]
    exact ⟨rfl, H.out.new HB.out, turns_new _ HB.out⟩
  | some t =>
    obtain ⟨rfl, ht⟩ := HX.out
    cases p with
    | zero =>
      go_enter Try.func17, Try.ntmps17
      go_wp2_with fail
      refine HP.out.mono ?_
      rintro e w1 ⟨rfl, hb⟩
      have HB := Lib.hid hb
      clear hb
      go_wp2_with fail
      refine (HI.out _).mono ?_
      rintro e w2 ⟨rfl, rfl⟩
      go_wp2_with fail
      go_ret
      rw [cutO_zero (.inl HE.out)]
      exact ⟨rfl, H.out.new HB.out, turns_new _ HB.out⟩
    | succ z =>
      cases b with
      | none => exact absurd HE.out (by simp [prevO])
      | some u =>
        obtain ⟨rfl, hu⟩ := HY.out
        have hce : S (u * 3 + 1) = z + 1 := HE.out
        have hct : cutO S (some t) (some u) = (upd S (t * 3 + 2) (z + 1), z + 1) := by rw [cut_pos (by rw [hce]; omega), hce]
        have hp := HP.out
        rw [show ((z + 1 : Nat) : Int) - 1 = (z : Int) by omega] at hp
        have HP2 := Lib.hid hp; have HC := Lib.hid hct
        have en : decide ((z : Int) < 0) = false := by simp
        clear hce hct hp
        go_enter Try.func17, Try.ntmps17
        go_wp2_with fail
        refine HP2.out.mono ?_
        rintro e w1 ⟨rfl, hb⟩
        have c2 := (H.out.new hb).cell (t * 3 + 2) (by omega)
        have f2 := (H.out.new hb).froz (t * 3 + 2) (by omega)
        have HB := Lib.hid hb
        clear hb
        go_wp2_with fail
        refine (HI.out _).mono ?_
        rintro e w2 ⟨rfl, rfl⟩
        go_wp2_with fail
        go_ret
        rw [HC.out]
        exact ⟨by rw [show (((z + 1 : Nat) : Int) - 1) = (z : Int) by omega]; rfl, (H.out.new HB.out).set (i := t * 3 + 2) (v := z + 1) (by omega) hle, (turns_new _ HB.out).setCell _ _ rfl⟩
end Go.Proofs.Ytlmgboggnljefaa
