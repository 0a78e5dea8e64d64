/- The document's set: seek, prev, cut. -/
import Derived.Test.YtlmgboggnljefaaB1
import Derived.Deep.LoopGhost
namespace Go.Proofs.Ytlmgboggnljefaa
open Go.RowKit

theorem rseek_no {w : World} {B : Nat} (x : Int) (hx : notT x) : Calls Try.prog 16 #[Pt B, .int .i64 x] w fun e w' => e = .returned (.int .i64 (-1)) ∧ w = w' := by
  have hh := is_no x hx
  have HH := Lib.hid hh
  clear hh
  go_enter Try.func16, Try.ntmps16
  go_wp2_with fail
  refine (HH.out _).mono ?_
  rintro e w' ⟨rfl, rfl⟩
  go_wp2_with fail
  go_ret
  exact ⟨rfl, rfl⟩
theorem rseek_yes {w : World} {B : Nat} {S : Lk} (h : Has w B S) (t : Nat) (ht : t < 64) : Calls Try.prog 16 #[Pt B, .int .i64 (t : Int)] w (Sought w B (seekS S t)) := by
  have hh := is_yes t ht
  have HH := Lib.hid hh; have H := Lib.hid h
  clear hh h
  go_enter Try.func16, Try.ntmps16
  go_wp2_with fail
  refine (HH.out _).mono ?_
  rintro e w' ⟨rfl, rfl⟩
  go_wp2_with fail
  go_loopg [5, 6] 64 (fun q s5 s6 wx => ∃ (n g at_ : Nat) (S' : Lk), n = q ∧ s5 = .int .i64 (at_ : Int) ∧ s6 = .int .i64 (g : Int) ∧ g + n = 64 ∧ at_ < 64 ∧ Has wx B S' ∧ go n S' at_ = go 64 S t ∧ Turns (fun k => k = B) w wx)
  case atStart => exact ⟨64, 0, t, S, rfl, rfl, rfl, rfl, ht, H.out, rfl, Turns.refl _ _⟩
  case round =>
    obtain ⟨n, g, at_, S', rfl, rfl, rfl, hgn, hat, hhas, hgo, htu⟩ := hrel
    have H2 := Lib.hid hhas; have HG := Lib.hid hgo; have HT := Lib.hid htu
    have c2 := hhas.cell (at_ * 3 + 2) (by omega)
    have f2 := hhas.froz (t * 3 + 2) (by omega)
    have ct := hhas.cell (t * 3 + 2) (by omega)
    have l2 := hhas.le (at_ * 3 + 2)
    clear hhas hgo htu
    obtain ⟨x, hx⟩ : ∃ x, S' (at_ * 3 + 2) = x := ⟨_, rfl⟩
    have HX := Lib.hid hx
    rw [hx] at c2 l2
    clear hx
    cases n with
    | zero =>
      obtain rfl : g = 64 := by omega
      go_wp2_with fail
      go_region
      all_goals
        go_wp2_with fail
        go_ret
        exact Sought.mk hat ht H2.out HT.out (HG.out.symm.trans (go_stop _ (.inr rfl))) HX.out rfl (.inr rfl)
    | succ n =>
      have e2 : decide ((g : Int) < 64) = true := by simp; omega
      by_cases hx0 : x = 0
      · subst hx0
        have c0 := H2.out.cell (at_ * 3) (by omega)
        have l0 := H2.out.le (at_ * 3)
        obtain ⟨y, hy⟩ : ∃ y, S' (at_ * 3) = y := ⟨_, rfl⟩
        have HY := Lib.hid hy
        rw [hy] at c0 l0
        clear hy
        cases y with
        | zero =>
          go_wp2_with fail
          go_ret
          exact Sought.none H2.out HT.out (HG.out.symm.trans (go_none n HX.out HY.out))
        | succ z =>
          have cz := H2.out.cell (z * 3 + 1) (by omega)
          have fz := H2.out.froz (z * 3 + 1) (by omega)
          have ez : ((z + 1 : Nat) : Int) = (z : Int) + 1 := by omega
          rw [ez] at c0
          have EZ := Lib.hid ez
          clear ez
          go_wp2_with fail
          go_roundg n
          case measure => omega
          case rel => exact ⟨n, g + 1, z, upd S' (z * 3 + 1) (at_ + 1), rfl, rfl, by go_num, by omega, by omega, H2.out.set (i := z * 3 + 1) (v := at_ + 1) (by omega) (by omega), (HG.out.symm.trans (go_on n HX.out HY.out)).symm, HT.out.setCell _ _ rfl⟩
      · have e1 : ((x : Int) == 0) = false := by rw [beq_eq_false_iff_ne]; omega
        go_wp2_with fail
        go_region
        all_goals
          go_wp2_with fail
          go_ret
          exact Sought.mk hat ht H2.out HT.out (HG.out.symm.trans (go_stop _ (.inl (by rw [HX.out]; exact hx0)))) HX.out rfl (.inr rfl)
theorem rseek_any {w : World} {B : Nat} {S : Lk} (h : Has w B S) {x : Int} {o : Option Nat} (hx : Num x o) : Calls Try.prog 16 #[Pt B, .int .i64 x] w (Sought w B (seekO S o)) := by
  cases o with
  | none => exact (rseek_no x hx).mono fun e w' ⟨he, hw⟩ => by subst hw; exact ⟨he, h, Turns.refl _ _⟩
  | some t => obtain ⟨rfl, ht⟩ := hx; exact rseek_yes h t ht
theorem prev_yes {w : World} {B : Nat} {S : Lk} (h : Has w B S) (t : Nat) (ht : t < 64) : Calls Try.prog 21 #[Pt B, .int .i64 (t : Int)] w fun e w' => e = .returned (.int .i64 ((S (t * 3 + 1) : Int) - 1)) ∧ Below w.heap.size w w' := by
  have hr := rat_yes h t ht
  unfold lnk3 at hr
  have HR := Lib.hid hr
  clear hr h
  generalize S (t * 3) = x at *
  generalize S (t * 3 + 1) = y at *
  generalize S (t * 3 + 2) = z at *
  go_enter Try.func21, Try.ntmps21
  go_wp2_with fail
  refine HR.out.mono ?_
  rintro e w1 ⟨rfl, hb⟩
  have HB := Lib.hid hb
  clear hb
  go_wp2_with fail
  go_ret
  exact ⟨rfl, HB.out⟩
theorem prev_no {w : World} {B : Nat} (x : Int) (hx : notT x) : Calls Try.prog 21 #[Pt B, .int .i64 x] w fun e w' => e = .returned (.int .i64 (-1)) ∧ w = w' := by
  have hr := rat_no (w := w) (B := B) x hx
  unfold nolnk3 at hr
  have HR := Lib.hid hr
  clear hr
  go_enter Try.func21, Try.ntmps21
  go_wp2_with fail
  refine HR.out.mono ?_
  rintro e w1 ⟨rfl, rfl⟩
  go_wp2_with fail
  go_ret
  exact ⟨rfl, rfl⟩
end Go.Proofs.Ytlmgboggnljefaa
